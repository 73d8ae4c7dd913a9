import Derived.Test.YtolififimldmlaaGreatPart42
import Derived.Test.YtolififimldmlaaGreatPart46
import Derived.Test.YtolififimldmlaaGreatPart25
import Derived.Test.YtolififimldmlaaGreatPart26
import Derived.Test.YtolififimldmlaaGreatPart44
import Derived.Test.YtolififimldmlaaGreatPart41
set_option linter.unusedVariables false
set_option linter.unusedSimpArgs false
set_option maxRecDepth 100000
set_option maxHeartbeats 16000000
namespace Go.Proofs.YtolififimldmlaaGreat
section
open Go.RowKit
theorem kis_lt {w:World} {K:Nat} {F:Nat→Prop} {s:LK} (h:KIs_ w K F s) (k:Nat) (e:F k):k < w.heap.size:=by
  obtain ⟨gd,cd,gl,cl,gf,cf,h1,h2⟩:=h
  rcases (h2 k).1 e with e | e | e | e
  · subst e;exact heap_lt h1.blk
  · exact h1.dow.lt e
  · exact h1.low.lt e
  · exact h1.fow.lt e
theorem PS.turn {Iv:LK→Prop} {Y Z1 Z:World} {W:Nat} {gh:Option Nat} {n cap:Nat} {H:Nat→HG} {gp:Option Nat} {np cp:Nat} {P:Nat→PG} {lead:Bool} {i K Kr pp:Nat} {F F' G G' pN:Nat→Prop} {ps st:LK}
    (hw:WI Y W (sl gp np cp) lead gh n cap H) (hps:PS KIs_ Iv Y W gh n H gp np cp P) (hi:i < np) (hPi:P i=⟨pp,pN,ps⟩)
    (q1:Y.heap[pp]?=some (.cells #[.pointer (some ⟨K,0,none⟩),.pointer (some ⟨Kr,0,none⟩)] 121 (0,0))) (q5:∀ k,pN k↔(k=pp∨F k∨G k)) (q6:∀ k,F k→¬ G k) (q7:¬ F pp) (q8:¬ G pp)
    (k1:KIs_ Z1 K F' st) (t1:Touch F Y Z1) (n1:∀ k,F' k→F k∨Y.heap.size≤k) (k2:RIs Z Kr G' st) (t2:Touch G Z1 Z) (n2:∀ k,G' k→G k∨(Z1.heap.size≤k∧k < Z.heap.size)) (hiv:Iv st) :
    WI Z W (sl gp np cp) lead gh n cap H∧PS KIs_ Iv Z W gh n H gp np cp (fun j=>if j=i then ⟨pp,fun k=>k=pp∨F' k∨G' k,st⟩ else P j)∧Touch (fun k=>F k∨G k) Y Z:=by
  have hWl:W < Y.heap.size:=heap_lt hw.wb
  have hs1:=t1.size
  have hs2:=t2.size
  have hNi:∀ k,(k=pp∨F k∨G k)→(P i).N k:=fun k e=>by rw [hPi];exact (q5 k).2 e
  have hlt:∀ k,(k=pp∨F k∨G k)→k < Y.heap.size:=fun k e=>hps.lt i hi k (hNi k e)
  have hfr:∀ k,(k=pp∨F k∨G k)→Free W gh n H k∧gp≠some k:=fun k e=>hps.fr i hi k (hNi k e)
  have t:Touch (fun k=>F k∨G k) Y Z:=(t1.mono (fun _ _ e=>.inl e)).trans t2 (fun _ _ e=>.inr e)
  have newlt:∀ k,(k=pp∨F' k∨G' k)→k < Z.heap.size:=fun k e=>by
    rcases e with e | e | e
    · have:=hlt k (.inl e);omega
    · have:=kis_lt k1 k e;omega
    · rcases n2 k e with e | e
      · have:=hlt k (.inr (.inr e));omega
      · exact e.2
  have newor:∀ k,(k=pp∨F' k∨G' k)→(k=pp∨F k∨G k)∨Y.heap.size≤k:=fun k e=>by
    rcases e with e | e | e
    · exact .inl (.inl e)
    · rcases n1 k e with e | e
      · exact .inl (.inr (.inl e))
      · exact .inr e
    · rcases n2 k e with e | e
      · exact .inl (.inr (.inr e))
      · exact .inr (by omega)
  refine ⟨hw.touch t (fun e=>(hfr W (.inr e)).1.1 rfl) (fun k e e2=>(hfr k (.inr e2)).1.2.1 e) (fun j hj k q hf=>World.cell?_of_block (t.block k ((hw.is j hj).foot_lt hf) (fun e=>(hfr k (.inr e)).1.2.2 j hj q hf))),?_,t⟩
  refine ⟨hps.own.touch t (fun k e e2=>(hfr k (.inr e2)).2 e),fun j hj=>?_,fun j hj=>?_,fun j hj k hk=>?_,fun j hj k hk=>?_,hps.frg,fun j hj=>?_,fun j hj k hk=>?_,fun a b ha hb hab k hk hk2=>?_⟩
  · obtain ⟨g,e,c⟩:=hps.ptr j hj
    refine ⟨g,e,?_⟩
    have c2:=t.cell c (fun e2=>(hfr g (.inr e2)).2 e)
    by_cases ej:j=i
    · subst ej;simp only [if_true];rw [hPi] at c2;exact c2
    · simp only [if_neg ej];exact c2
  · by_cases ej:j=i
    · subst ej
      simp only [if_true]
      refine ⟨K,F',Kr,G',t.heapAt q1 (fun e=>by rcases e with e | e;exact q7 e;exact q8 e),?_,k2,fun k=>Iff.rfl,fun k e1 e2=>?_,fun e=>?_,fun e=>?_⟩
      · refine keepsSaid_ _ _ _ _ _ _ k1 t2 (fun k e e2=>?_)
        rcases n1 k e with e | e
        · exact q6 k e e2
        · have:=hlt k (.inr (.inr e2));omega
      · have h1:=kis_lt k1 k e1
        rcases n1 k e1 with e | e
        · rcases n2 k e2 with q | q
          · exact q6 k e q
          · omega
        · rcases n2 k e2 with q | q
          · have:=hlt k (.inr (.inr q));omega
          · omega
      · rcases n1 pp e with e | e
        · exact q7 e
        · have:=hlt pp (.inl rfl);omega
      · rcases n2 pp e with e | e
        · exact q8 e
        · have:=hlt pp (.inl rfl);omega
    · simp only [if_neg ej]
      exact (hps.pl j hj).touch keepsSaid_ t (fun k hk e=>hps.ds j i hj hi ej k hk (hNi k (.inr e)))
  · by_cases ej:j=i
    · simp only [if_pos ej] at hk;exact newlt k hk
    · simp only [if_neg ej] at hk;have:=hps.lt j hj k hk;omega
  · by_cases ej:j=i
    · simp only [if_pos ej] at hk
      rcases newor k hk with e | e
      · exact hfr k e
      · exact ⟨hw.free_new e,fun e2=>by have:=hps.own.lt e2;omega⟩
    · simp only [if_neg ej] at hk;exact hps.fr j hj k hk
  · by_cases ej:j=i
    · simp only [if_pos ej];exact hiv
    · simp only [if_neg ej];exact hps.iv j hj
  · by_cases ej:j=i
    · simp only [if_pos ej] at hk
      rcases newor k hk with e | e
      · exact hps.ge i hi k (hNi k e)
      · omega
    · simp only [if_neg ej] at hk;exact hps.ge j hj k hk
  · by_cases ea:a=i
    · by_cases eb:b=i
      · omega
      · simp only [if_pos ea] at hk;simp only [if_neg eb] at hk2
        rcases newor k hk with e | e
        · exact hps.ds i b hi hb (Ne.symm eb) k (hNi k e) hk2
        · have:=hps.lt b hb k hk2;omega
    · by_cases eb:b=i
      · simp only [if_neg ea] at hk;simp only [if_pos eb] at hk2
        rcases newor k hk2 with e | e
        · exact hps.ds a i ha hi ea k hk (hNi k e)
        · have:=hps.lt a ha k hk;omega
      · simp only [if_neg ea] at hk;simp only [if_neg eb] at hk2
        exact hps.ds a b ha hb hab k hk hk2
theorem LawAt.keptN {Iv:LK→Prop} {x Y z:World} {W:Nat} {lead:Bool} {gh gh' gp:Option Nat} {n m cap cap' np cp:Nat} {H H':Nat→HG} {P:Nat→PG} {R:Nat→Prop} (hw:WI Y W (sl gp np cp) lead gh n cap H) (hps:PS KIs_ Iv Y W gh n H gp np cp P) (h6:np≤6) (hb:Touch (fun k=>W≤k∨gh=some k∨gp=some k) x Y)
    (hk:KeptN Y W (sl gp np cp) lead gh n m H R z gh' cap' H') (hR:∀ k,R k→x.heap.size≤k) (hRN:∀ j,j < np→∀ k,(P j).N k→¬ R k) (hgx:∀ k,gp=some k→k < x.heap.size):LawAt KIs_ Iv x W lead (n+m) gh gp z:=by
  have hs:=hb.size
  refine ⟨⟨gh',cap',H',gp,np,cp,P,hk.wi,hps.move keepsSaid_ hk.tch hk.fr hRN (fun k e r=>?_),h6,fun k e=>?_,fun k e=>.inl e⟩,hb.trans hk.tch (fun k hk e=>?_)⟩
  · have:=hgx k e;have:=hR k r;omega
  · rcases hk.gg k e with e | e
    · exact .inl e
    · exact .inr (by omega)
  · rcases e with e | e | e
    · exact .inl (Nat.le_of_eq e.symm)
    · exact .inr (.inl e)
    · have:=hR k e;omega
end
section
open Go.RowKit
attribute [local go_sem ↓] Go.wp_at_zero Go.wp_at_succ
theorem stepArm (x:World) (W:Nat) (gh:Option Nat) (n cap:Nat) (H:Nat→HG) (gp:Option Nat) (np cp:Nat) (P:Nat→PG) (hw:WI x W (sl gp np cp) true gh n cap H) (hps:PS KIs_ IvL x W gh n H gp np cp P) (h0:0 < np) (h6:np≤6) (o:OpG) (hk:o.kind=8) (hr:o.ranged) :
    Calls Tryz.prog 30 #[.pointer (some ⟨W,0,none⟩),.agg o.cells] x fun e y=>e=.returned (.bool true)∧LawAt KIs_ IvL x W true n gh gp y:=by
  have HWI:=hid hw
  have HPS:=hid hps
  have w0:=cell_of_heap hw.wb 0
  simp only [List.getElem?_toArray,List.getElem?_cons_zero] at w0
  unfold sl at w0
  have hWl:W < x.heap.size:=heap_lt hw.wb
  clear hw hps
  have HRN:=hid hr.1
  have HRA:=hid hr.2
  clear hr
  unfold OpG.cells sla
  obtain ⟨okind,on,l,f,fa,fc,k1,k2,k3,oa⟩:=o
  dsimp only at *
  subst hk
  have hz:((np:Int) == 0)=false:=beq_eq_false_iff_ne.2 (by omega)
  go_enter Tryz.func30,Tryz.ntmps30
  go_wp2
  generalize hY:x.alloc (.cells #[.int .i64 8,.int .i64 on,.string ⟨l.toArray⟩,.int .i64 f.kind,.int .i64 f.frm,.int .i64 f.view,.int .i64 f.place,.int .i64 f.agreed,.int .i64 f.last,.int .i64 f.line.c,.int .i64 f.line.t,.string ⟨f.line.s.toArray⟩,.slice fa f.lines.length fc,.int .i64 k1,.int .i64 k2,.int .i64 k3,.int .i64 oa] 76)=Y
  have HOP:Hid (Y.heap[x.heap.size]?=some (.cells #[.int .i64 8,.int .i64 on,.string ⟨l.toArray⟩,.int .i64 f.kind,.int .i64 f.frm,.int .i64 f.view,.int .i64 f.place,.int .i64 f.agreed,.int .i64 f.last,.int .i64 f.line.c,.int .i64 f.line.t,.string ⟨f.line.s.toArray⟩,.slice fa f.lines.length fc,.int .i64 k1,.int .i64 k2,.int .i64 k3,.int .i64 oa] 76 (0,0))):=by show _=_;rw [← hY];exact heap_alloc_new x _
  have y1:Y.cell? ⟨x.heap.size,1,none⟩=some (.int .i64 on):=by rw [← hY];exact World.cell?_alloc_new _ _ _ _
  have BY:Hid (Below x.heap.size x Y):=by show Below _ _ _;rw [← hY];exact (Below.refl _ _).alloc (Nat.le_refl _) _
  have hxl:x.heap.size < Y.heap.size:=by rw [← hY];simp
  have WY:=hid (HWI.out.below BY.out)
  have PY:=hid (HPS.out.below keepsSaid_ BY.out)
  clear hY w0
  have v0:=cell_of_heap WY.out.wb 0
  simp only [List.getElem?_toArray,List.getElem?_cons_zero] at v0
  unfold sl at v0
  have hi:=pickN_lt on h0
  have HPK:=hid (pick_any on np)
  generalize pickN on np=i at hi HPK ⊢
  obtain ⟨gP,hgP,cP⟩:=PY.out.ptr i hi
  obtain ⟨K,F,Kr,G,q1,q2,q3,q5,q6,q7,q8⟩:=PY.out.pl i hi
  have hiv:=PY.out.iv i hi
  generalize hPi:P i=pi at *
  obtain ⟨pp,pN,ps⟩:=pi
  dsimp only at *
  have HPI:=hid hPi
  have HIV:=hid hiv
  have HQ1:=hid q1
  have HQ2:=hid q2
  have HQ3:=hid q3
  have HQ5:=hid q5
  have HQ6:=hid q6
  have HQ7:=hid q7
  have HQ8:=hid q8
  clear hiv q1 q2 q3 q5 q6 q7 q8 hPi
  subst hgP
  have i0:(0:Int)≤(i:Int):=by omega
  have i1:(i:Int) < (np:Int):=by omega
  simp only [Option.map_some] at v0 ⊢
  have HX:Hid (Below Y.heap.size Y Y):=Below.refl _ _
  go_region_held (fun z=>z.cell? ⟨x.heap.size,1,none⟩=some (.int .i64 on)∧z.cell? ⟨W,0,none⟩=some (.slice (some ⟨gP,0,none⟩) np cp)∧z.cell? ⟨gP,i,none⟩=some (.pointer (some ⟨pp,0,none⟩)))
    (go_keep)
    (first | (go_at_call 54;refine (HPK.out _ h0 (by omega) HRN.out).mono ?_;rintro e wf ⟨rfl,rfl⟩))
  rename_i hh
  clear hh
  obtain ⟨Y2,hY2⟩:∃ Y2:World,Y2=Y.drew:=⟨_,rfl⟩
  have bY2:Below Y.heap.size Y Y2:=by rw [hY2];exact (Below.refl _ _).drew
  have hs2:Y2.heap.size=Y.heap.size:=by rw [hY2];rfl
  rw [← hY2]
  have W2:=hid (WY.out.below bY2)
  have P2:=hid (PY.out.below keepsSaid_ bY2)
  have B2:=hid (BY.out.trans (bY2.mono BY.out.size))
  have HK2:=hid (keepsSaid_ _ _ _ _ _ _ HQ2.out (Touch.of_belowAll bY2 (fun _=>False)) (fun _ _ h=>h))
  have HR2:=hid (HQ3.out.below bY2)
  have HP2:=hid ((bY2.block _ (heap_lt HQ1.out)).trans HQ1.out)
  have HO2:=hid ((bY2.block _ (heap_lt HOP.out)).trans HOP.out)
  have HFX:Hid (∀ k,(k=pp∨F k∨G k)→k < x.heap.size∧W≤k):=fun k e=>by
    have e2:(P i).N k:=by rw [HPI.out];exact (HQ5.out k).2 e
    exact ⟨HPS.out.lt i hi k e2,HPS.out.ge i hi k e2⟩
  clear hY2 bY2 y1 v0 WY PY BY HX cP HQ1 HQ2 HQ3 HPK HOP hz
  have p0:=cell_of_heap HP2.out 0
  have p1:=cell_of_heap HP2.out 1
  simp only [List.getElem?_toArray,List.getElem?_cons_zero,List.getElem?_cons_succ] at p0 p1
  have u0:Y2.cell? ⟨x.heap.size,0,none⟩=some (.int .i64 8):=cell_of_heap HO2.out 0
  have u16:Y2.cell? ⟨x.heap.size,16,none⟩=some (.int .i64 oa):=cell_of_heap HO2.out 16
  go_wp2
  go_still_tail 6,(by kernel_rfl)
  go_wp2_with fail
  refine (progArm ps oa Y2.drew K F (keepsSaid_ _ _ _ _ _ _ HK2.out ((Touch.refl (fun _=>False) Y2).drew) (fun _ _ h=>h))).mono ?_
  rintro e Y3 ⟨rfl,hk3,t3⟩
  have T3:Hid (Touch F Y2 Y3):=((Touch.refl F Y2).drew).trans t3 (fun _ _ e=>e)
  have HK3:=hid hk3
  have HR3:=hid (HR2.out.touch T3.out (fun k e e2=>HQ6.out k e2 e))
  have HP3:=hid (T3.out.heapAt HP2.out HQ7.out)
  have HO3:=hid (T3.out.heapAt HO2.out (fun e=>by have:=(HFX.out _ (.inr (.inl e))).1;omega))
  clear hk3 t3 u0 u16 p0 p1
  have p1:=cell_of_heap HP3.out 1
  have u16:=cell_of_heap HO3.out 16
  simp only [List.getElem?_toArray,List.getElem?_cons_zero,List.getElem?_cons_succ] at p1 u16
  go_wp2
  go_still_tail 6,(by kernel_rfl)
  go_wp2_with fail
  refine (docArm ps oa Y3.drew Kr G (HR3.out.below ((Below.refl _ _).drew))).mono ?_
  rintro e Y4 ⟨rfl,hr4,t4⟩
  have T4:Hid (Touch G Y3 Y4):=((Touch.refl G Y3).drew).trans t4 (fun _ _ e=>e)
  have HR4:=hid hr4
  clear hr4 t4 u16 p1
  have LA:Hid (LawAt KIs_ IvL x W true n gh (some gP) Y4):=by
    obtain ⟨a1,a2,a3⟩:=PS.turn W2.out P2.out hi HPI.out HP2.out HQ5.out HQ6.out HQ7.out HQ8.out HK3.out T3.out (fun k e=>.inl e) HR4.out T4.out (fun k e=>.inl e) (HIV.out.armed oa HRA.out)
    exact LawAt.keptN (m:=0) a1 a2 h6 ((Touch.of_belowAll B2.out _).trans a3 (fun k _ e=>.inl (HFX.out k (.inr e)).2)) (KeptN.start a1 (fun _=>False)) (fun k e=>e.elim) (fun j hj k hk e=>e) (fun k e=>HPS.out.own.lt e)
  go_wp2
  go_ret
  exact ⟨rfl,LA.out⟩
def RV.remR (v:RV) (t:Int):Fr:=if v.hs t.toNat < v.m.ls.length then ⟨2,v.me,v.m.view,v.hs t.toNat+1,v.ag,0,v.m.ls.getD (v.hs t.toNat).toNat Ln.zero,[]⟩ else ⟨4,v.me,v.m.view,0,v.ag,0,Ln.zero,[]⟩
section
variable (v:RV) (B:Nat) (w:World) (h:v.At w B)
include h
theorem refTickDead (hd:v.dead=true) :
    Calls Tryz.prog 66 #[.pointer (some ⟨B,0,none⟩)] w (NoRet w 5):=by
  have c5:w.cell? ⟨B,5,none⟩=some (.bool true):=by rw [← hd];exact cell_of_heap h.blk 5
  clear h hd
  go_enter Tryz.func66,Tryz.ntmps66
  go_wp2
  go_ret2
  exact ⟨rfl,Below.refl _ _⟩
theorem refTick (hl:v.Lead) (hme:v.me=0) (n:Nat) (hkn:v.kp=n) (hn:n≤5) (hh:∀ j,0≤v.hs j) :
    Calls Tryz.prog 66 #[.pointer (some ⟨B,0,none⟩)] w (DoneRet w B v (fun u=>∃ g c,u=v.pushAll ((othersL v.me n).map fun t=>⟨false,t,packS (v.remR t)⟩) g c)):=by
  have HI:Hid (∀ z,Below w.heap.size w z→Calls Tryz.prog 105 #[.pointer (some ⟨B,0,none⟩)] z fun e w'=>e=.returned (.bool true)∧Below z.heap.size z w'):=fun z hz=>by
    have:=refIn v B z (h.below hz)
    rw [hl.view,hl.last] at this
    exact this
  have HD:Hid (∀ z,Below w.heap.size w z→Calls Tryz.prog 106 #[.pointer (some ⟨B,0,none⟩)] z fun e w'=>e=.returned (.bool true)∧Below z.heap.size z w'):=fun z hz=>by
    have:=refLeads v B z (h.below hz) hl.kp hl.view
    rw [decide_eq_true hme.symm] at this
    exact this
  have HS4:Hid (∀ (u:RV) (z:World) (t:Int),u.At z B→u.me=v.me→u.os.length≤1000→Calls Tryz.prog 107 #[.pointer (some ⟨B,0,none⟩),.int .i64 t,.agg #[.int .i64 4,.int .i64 0,.int .i64 v.m.view,.int .i64 0,.int .i64 v.ag,.int .i64 0,.int .i64 0,.int .i64 0,.string ⟨#[]⟩,.slice none 0 0]] z (SentRet z B u ⟨false,t,packS ⟨4,v.me,v.m.view,0,v.ag,0,Ln.zero,[]⟩⟩)):=fun u z t hu he ho =>
    refSend u B z hu t ⟨4,0,v.m.view,0,v.ag,0,Ln.zero,[]⟩ none 0 (fun j hj=>absurd hj (Nat.not_lt_zero _)) (Nat.zero_le _) (Nat.le_refl _) ho _ (by rw [he])
  have HS2:Hid (∀ (u:RV) (z:World) (t:Int) (p:Nat) (ln:Ln),u.At z B→u.me=v.me→u.os.length≤1000→Calls Tryz.prog 107 #[.pointer (some ⟨B,0,none⟩),.int .i64 t,.agg #[.int .i64 2,.int .i64 0,.int .i64 v.m.view,.int .i64 (p+1:Nat),.int .i64 v.ag,.int .i64 0,.int .i64 ln.c,.int .i64 ln.t,.string ⟨ln.s.toArray⟩,.slice none 0 0]] z (SentRet z B u ⟨false,t,packS ⟨2,v.me,v.m.view,(p+1:Nat),v.ag,0,ln,[]⟩⟩)):=fun u z t p ln hu he ho =>
    refSend u B z hu t ⟨2,0,v.m.view,(p+1:Nat),v.ag,0,ln,[]⟩ none 0 (fun j hj=>absurd hj (Nat.not_lt_zero _)) (Nat.zero_le _) (Nat.le_refl _) ho _ (by rw [he])
  unfold SentRet at HS4 HS2
  have HDN:Hid (∀ y g c,RChg w y B v (v.pushAll ((othersL v.me n).map fun t=>⟨false,t,packS (v.remR t)⟩) g c)→Calls Tryz.prog 103 #[.pointer (some ⟨B,0,none⟩)] y fun e z=>(∃ x n,e=.returned (.tuple #[x,.int .i64 n]))∧DoneRet w B v (fun u=>∃ g c,u=v.pushAll ((othersL v.me n).map fun t=>⟨false,t,packS (v.remR t)⟩) g c) e z):=fun y g c hc=>done_of hc ⟨g,c,rfl⟩
  generalize DoneRet w B v (fun u=>∃ g c,u=v.pushAll ((othersL v.me n).map fun t=>⟨false,t,packS (v.remR t)⟩) g c)=Q at *
  have HV:=hid h
  have HL:=hid hl
  have HKN:=hid hkn
  have HH:=hid hh
  have hos:v.os=[]:=hl.os
  have HOS:=hid hos
  have c5:w.cell? ⟨B,5,none⟩=some (.bool false):=by rw [← hl.dead];exact cell_of_heap h.blk 5
  have h20:=hl.l20
  clear h hl hkn hh hos hme
  go_enter Tryz.func66,Tryz.ntmps66
  go_wp2_with fail
  refine (HI.out _ (Below.refl _ _)).mono ?_
  rintro e Z1 ⟨rfl,hb1⟩
  have HB1:=hid hb1
  clear hb1 c5
  go_wp2_with fail
  refine (HD.out _ HB1.out).mono ?_
  rintro e Z2 ⟨rfl,hb2⟩
  have HB2:=hid (HB1.out.trans (hb2.mono HB1.out.size))
  clear hb2 HB1 HI HD
  have H0:=hid (RChg.same HV.out HB2.out)
  go_wp2
  go_loopw [6] (fun i wr=>∃ (k:Nat) (g:Option Nat) (c:Nat),k≤n∧i=.int .i64 k∧Hid (RChg w wr B v (v.pushAll ((othersL v.me k).map fun t=>⟨false,t,packS (v.remR t)⟩) g c))) (fun i _=>n - (intOf i).toNat)
  case atStart=>exact ⟨0,v.sg,v.sc,Nat.zero_le _,rfl,by show RChg _ _ _ _ _;have:=H0.out;unfold othersL;rw [List.map_nil,RV.pushAll_nil];exact this⟩
  case round =>
    obtain ⟨k,g,c,hkn,rfl,HR⟩:=hrel
    have c0:wr.cell? ⟨B,0,none⟩=some (.int .i64 n):=by rw [← HKN.out];exact cell_of_heap HR.out.at_.blk 0
    have c1:wr.cell? ⟨B,1,none⟩=some (.int .i64 v.me):=cell_of_heap HR.out.at_.blk 1
    have hol:=othersL_len v.me k
    by_cases hlt:k < n
    · have b1:(k:Int) < (n:Int):=by omega
      by_cases hme:(k:Int)=v.me
      · have HME:=hid hme
        have hbe:(k:Int)=v.me↔True:=iff_true_intro hme
        go_wp2
        go_roundw
        case rel=>exact ⟨k+1,g,c,by omega,by go_num,by unfold othersL;rw [if_pos HME.out,List.append_nil];exact HR⟩
        case measure=>simp [intOf];omega
      · have k0:(0:Int)≤(k:Int):=by omega
        have k5:(k:Int) < 5:=by omega
        obtain ⟨p,hp⟩:∃ p:Nat,v.hs k=p:=⟨(v.hs k).toNat,by have:=HH.out k;omega⟩
        have xh:wr.cell? ⟨B,11+k,none⟩=some (.int .i64 p):=by rw [← hp];exact HR.out.at_.holdCell k (by omega)
        have x9:wr.cell? ⟨B,9,none⟩=some (.slice (v.g.map fun k=>⟨k,0,none⟩) v.m.ls.length v.c):=cell_of_heap HR.out.at_.blk 9
        have hlo:(v.pushAll ((othersL v.me k).map fun t=>(⟨false,t,packS (v.remR t)⟩:OutG)) g c).os.length≤1000:=by show (v.os++_).length≤1000;rw [HOS.out,List.length_append,List.length_map];simp;omega
        have HLO:=hid hlo
        clear hlo
        have HP:=hid hp
        clear hp
        by_cases hps:p < v.m.ls.length
        · have hpi:(p:Int) < (v.m.ls.length:Int):=by omega
          have HRM:Hid (v.remR k=⟨2,v.me,v.m.view,(p+1:Nat),v.ag,0,v.m.ls[p],[]⟩):=by
            show _=_
            unfold RV.remR
            rw [Int.toNat_natCast,HP.out,if_pos hpi,Int.toNat_natCast,getD_at _ _ _ hps]
            rfl
          have xh':wr.drew.cell? ⟨B,11+k,none⟩=some (.int .i64 p):=xh
          have wp1:IntKind.i64.wrap ((p:Int)+1)=((p+1:Nat):Int):=by rw [IntWalk.i64_left,IntWalk.wrap64_in _ (by omega)];omega
          have HR1:=hid (HR.out.below ((Below.refl _ wr).drew))
          have HPR:=hid (fun z hz=>refPrepare _ B z (HR1.out.at_.below hz) p hps (Nat.le_trans h20 (by decide)) v.m.ls[p] rfl)
          have HSN:=hid (fun z hz=>HS2.out _ z k p v.m.ls[p] (HR1.out.at_.below hz) rfl HLO.out)
          go_wp2
          go_still_tail 12,(by kernel_rfl)
          go_wp2_with fail
          refine (HPR.out _ (Below.refl _ _)).mono ?_
          rintro e Y1 ⟨rfl,hb1⟩
          have HB1:=hid hb1
          clear hb1 c0 c1 xh xh' x9
          go_wp2_with fail
          refine (HSN.out _ HB1.out).mono ?_
          rintro e Y2 ⟨rfl,g2,c2,hch⟩
          have HR2:=hid ((HR1.out.below HB1.out).trans hch)
          rw [RV.pushAll_push] at HR2
          clear hch
          go_wp2
          go_roundw
          case rel=>exact ⟨k+1,some g2,c2,by omega,by go_num,by unfold othersL;rw [if_neg hme,List.map_append,List.map_cons,List.map_nil,HRM.out];exact HR2⟩
          case measure=>simp [intOf];omega
        · have hpi:¬ ((p:Int) < (v.m.ls.length:Int)):=by omega
          have HRM:Hid (v.remR k=⟨4,v.me,v.m.view,0,v.ag,0,Ln.zero,[]⟩):=by
            show _=_
            unfold RV.remR
            rw [Int.toNat_natCast,HP.out,if_neg hpi]
          have x7':wr.drew.cell? ⟨B,7,none⟩=some (.int .i64 v.m.view):=cell_of_heap HR.out.at_.blk 7
          have x10':wr.drew.cell? ⟨B,10,none⟩=some (.int .i64 v.ag):=cell_of_heap HR.out.at_.blk 10
          have HR1:=hid (HR.out.below ((Below.refl _ wr).drew))
          have HSN:=hid (fun z hz=>HS4.out _ z k (HR1.out.at_.below hz) rfl HLO.out)
          go_wp2
          go_still_tail 12,(by kernel_rfl)
          go_wp2
          clear c0 c1 xh x9
          generalize wr.drew=Y1 at *
          go_still_tail 12,(by kernel_rfl)
          go_wp2_with fail
          refine (HSN.out _ ((Below.refl _ _).drew)).mono ?_
          rintro e Y2 ⟨rfl,g2,c2,hch⟩
          have HR2:=hid ((HR1.out.below ((Below.refl _ _).drew)).trans hch)
          rw [RV.pushAll_push] at HR2
          clear hch x7' x10'
          go_wp2
          go_roundw
          case rel=>exact ⟨k+1,some g2,c2,by omega,by go_num,by unfold othersL;rw [if_neg hme,List.map_append,List.map_cons,List.map_nil,HRM.out];exact HR2⟩
          case measure=>simp [intOf];omega
    · have hkn:k=n:=by omega
      subst hkn
      go_wp2_with fail
      refine (HDN.out _ g c HR.out).mono ?_
      rintro e z ⟨⟨x,m,rfl⟩,hq⟩
      have HQF:=hid hq
      clear hq
      go_wp2
      exact HQF.out
end
end
section
open Go.RowKit
theorem DoneRet.mono {w y:World} {K:Nat} {v:RV} {R R':RV→Prop} {e:Ending} (h:DoneRet w K v R e y) (hr:∀ u,R u→R' u):DoneRet w K v R' e y:=by
  obtain ⟨u,h1,h2⟩:=h
  exact ⟨u,hr u h1,h2⟩
theorem docTick (s:LK) (hi:IvL s) (hm:s.me=0) (w:World) (K:Nat) (G:Nat→Prop) (hK:RIs w K G s) :
    Calls Tryz.prog 66 #[.pointer (some ⟨K,0,none⟩)] w (RDid w K G s.tick):=by
  unfold LK.tick
  cases hd:s.dead with
  | true =>
    rw [if_pos rfl]
    obtain ⟨v,hv,hvd⟩:=ris_dead hK hd
    exact (refTickDead v K w hv hvd).mono fun e y q=>q.did hK
  | false =>
    rw [if_neg (by simp)]
    have hl:s.lost=[]:=by
      unfold LK.dead at hd
      cases e:s.lost with
      | nil=>rfl
      | cons a l=>rw [e] at hd;cases hd
    obtain ⟨g,c,h,hG⟩:=ris_alive hK hd
    have h5:s.kp.toNat≤5:=by have:=hi.conf.nat.1;omega
    refine (refTick (s.rv g c) K w h (hi.lead g c) hm s.kp.toNat hi.conf.nat.2.symm h5 (fun j=>(hi.hs j).1)).mono fun e y q=>?_
    refine DoneRet.did (q.mono (R':=RFor (s.rv g c) s ⟨(othersL s.me s.kp.toNat).map fun t=>⟨false,t,packS (s.reminder t)⟩,0,s⟩) ?_) hG
    rintro u ⟨g',c',rfl⟩
    exact .inl ⟨rfl,hl,g,c,g',c',rfl,fun _=>rfl⟩
end
section
open Go.RowKit
attribute [local go_sem ↓] Go.wp_at_zero Go.wp_at_succ
theorem stepTick (x:World) (W:Nat) (gh:Option Nat) (n cap:Nat) (H:Nat→HG) (gp:Option Nat) (np cp:Nat) (P:Nat→PG) (hw:WI x W (sl gp np cp) true gh n cap H) (hps:PS KIs_ IvL x W gh n H gp np cp P) (h0:0 < np) (h6:np≤6) (hn:n≤95000000) (o:OpG) (hk:o.kind=10) (hr:o.ranged) :
    Calls Tryz.prog 30 #[.pointer (some ⟨W,0,none⟩),.agg o.cells] x fun e y=>e=.returned (.bool true)∧∃ m,m≤88∧LawAt KIs_ IvL x W true (n+m) gh gp y:=by
  have HWI:=hid hw
  have HPS:=hid hps
  have w0:=cell_of_heap hw.wb 0
  simp only [List.getElem?_toArray,List.getElem?_cons_zero] at w0
  unfold sl at w0
  have hWl:W < x.heap.size:=heap_lt hw.wb
  clear hw hps
  have HRN:=hid hr.1
  have HRA:=hid hr.2
  clear hr
  unfold OpG.cells sla
  obtain ⟨okind,on,l,f,fa,fc,k1,k2,k3,oa⟩:=o
  dsimp only at *
  subst hk
  have hz:((np:Int) == 0)=false:=beq_eq_false_iff_ne.2 (by omega)
  go_enter Tryz.func30,Tryz.ntmps30
  go_wp2
  generalize hY:x.alloc (.cells #[.int .i64 10,.int .i64 on,.string ⟨l.toArray⟩,.int .i64 f.kind,.int .i64 f.frm,.int .i64 f.view,.int .i64 f.place,.int .i64 f.agreed,.int .i64 f.last,.int .i64 f.line.c,.int .i64 f.line.t,.string ⟨f.line.s.toArray⟩,.slice fa f.lines.length fc,.int .i64 k1,.int .i64 k2,.int .i64 k3,.int .i64 oa] 76)=Y
  have HOP:Hid (Y.heap[x.heap.size]?=some (.cells #[.int .i64 10,.int .i64 on,.string ⟨l.toArray⟩,.int .i64 f.kind,.int .i64 f.frm,.int .i64 f.view,.int .i64 f.place,.int .i64 f.agreed,.int .i64 f.last,.int .i64 f.line.c,.int .i64 f.line.t,.string ⟨f.line.s.toArray⟩,.slice fa f.lines.length fc,.int .i64 k1,.int .i64 k2,.int .i64 k3,.int .i64 oa] 76 (0,0))):=by show _=_;rw [← hY];exact heap_alloc_new x _
  have y1:Y.cell? ⟨x.heap.size,1,none⟩=some (.int .i64 on):=by rw [← hY];exact World.cell?_alloc_new _ _ _ _
  have BY:Hid (Below x.heap.size x Y):=by show Below _ _ _;rw [← hY];exact (Below.refl _ _).alloc (Nat.le_refl _) _
  have hxl:x.heap.size < Y.heap.size:=by rw [← hY];simp
  have WY:=hid (HWI.out.below BY.out)
  have PY:=hid (HPS.out.below keepsSaid_ BY.out)
  clear hY w0
  have v0:=cell_of_heap WY.out.wb 0
  simp only [List.getElem?_toArray,List.getElem?_cons_zero] at v0
  unfold sl at v0
  have hi:=pickN_lt on h0
  have HPK:=hid (pick_any on np)
  generalize pickN on np=i at hi HPK ⊢
  obtain ⟨gP,hgP,cP⟩:=PY.out.ptr i hi
  obtain ⟨K,F,Kr,G,q1,q2,q3,q5,q6,q7,q8⟩:=PY.out.pl i hi
  have hiv:=PY.out.iv i hi
  generalize hPi:P i=pi at *
  obtain ⟨pp,pN,ps⟩:=pi
  dsimp only at *
  have HPI:=hid hPi
  have HIV:=hid hiv
  have HQ1:=hid q1
  have HQ2:=hid q2
  have HQ3:=hid q3
  have HQ5:=hid q5
  have HQ6:=hid q6
  have HQ7:=hid q7
  have HQ8:=hid q8
  clear hiv q1 q2 q3 q5 q6 q7 q8 hPi
  subst hgP
  have i0:(0:Int)≤(i:Int):=by omega
  have i1:(i:Int) < (np:Int):=by omega
  simp only [Option.map_some] at v0 ⊢
  have HX:Hid (Below Y.heap.size Y Y):=Below.refl _ _
  go_region_held (fun z=>z.cell? ⟨x.heap.size,1,none⟩=some (.int .i64 on)∧z.cell? ⟨W,0,none⟩=some (.slice (some ⟨gP,0,none⟩) np cp)∧z.cell? ⟨gP,i,none⟩=some (.pointer (some ⟨pp,0,none⟩)))
    (go_keep)
    (first | (go_at_call 54;refine (HPK.out _ h0 (by omega) HRN.out).mono ?_;rintro e wf ⟨rfl,rfl⟩))
  rename_i hh
  clear hh
  obtain ⟨Y2,hY2⟩:∃ Y2:World,Y2=Y.drew:=⟨_,rfl⟩
  have bY2:Below Y.heap.size Y Y2:=by rw [hY2];exact (Below.refl _ _).drew
  have hs2:Y2.heap.size=Y.heap.size:=by rw [hY2];rfl
  rw [← hY2]
  have W2:=hid (WY.out.below bY2)
  have P2:=hid (PY.out.below keepsSaid_ bY2)
  have B2:=hid (BY.out.trans (bY2.mono BY.out.size))
  have HK2:=hid (keepsSaid_ _ _ _ _ _ _ HQ2.out (Touch.of_belowAll bY2 (fun _=>False)) (fun _ _ h=>h))
  have HR2:=hid (HQ3.out.below bY2)
  have HP2:=hid ((bY2.block _ (heap_lt HQ1.out)).trans HQ1.out)
  have HO2:=hid ((bY2.block _ (heap_lt HOP.out)).trans HOP.out)
  have HFX:Hid (∀ k,(k=pp∨F k∨G k)→k < x.heap.size∧W≤k):=fun k e=>by
    have e2:(P i).N k:=by rw [HPI.out];exact (HQ5.out k).2 e
    exact ⟨HPS.out.lt i hi k e2,HPS.out.ge i hi k e2⟩
  clear hY2 bY2 y1 v0 WY PY BY HX cP HQ1 HQ2 HQ3 HPK HOP hz
  have p0:=cell_of_heap HP2.out 0
  have p1:=cell_of_heap HP2.out 1
  simp only [List.getElem?_toArray,List.getElem?_cons_zero,List.getElem?_cons_succ] at p0 p1
  have u0:Y2.cell? ⟨x.heap.size,0,none⟩=some (.int .i64 10):=cell_of_heap HO2.out 0
  have u1:=cell_of_heap HO2.out 1
  have u2:=cell_of_heap HO2.out 2
  have u3:=cell_of_heap HO2.out 3
  have u4:=cell_of_heap HO2.out 4
  have u5:=cell_of_heap HO2.out 5
  have u6:=cell_of_heap HO2.out 6
  have u7:=cell_of_heap HO2.out 7
  have u8:=cell_of_heap HO2.out 8
  have u9:=cell_of_heap HO2.out 9
  have u10:=cell_of_heap HO2.out 10
  have u11:=cell_of_heap HO2.out 11
  have u12:=cell_of_heap HO2.out 12
  have u13:=cell_of_heap HO2.out 13
  have u14:=cell_of_heap HO2.out 14
  have u15:=cell_of_heap HO2.out 15
  have u16:=cell_of_heap HO2.out 16
  simp only [List.getElem?_toArray,List.getElem?_cons_zero,List.getElem?_cons_succ] at u1 u2 u3 u4 u5 u6 u7 u8 u9 u10 u11 u12 u13 u14 u15 u16
  have HX:Hid (∀ r,(ps.me != 0)=r→Calls Tryz.prog 61 #[.pointer (some ⟨W,0,none⟩),.pointer (some ⟨pp,0,none⟩),.agg #[.int .i64 10,.int .i64 on,.string ⟨l.toArray⟩,.int .i64 f.kind,.int .i64 f.frm,.int .i64 f.view,.int .i64 f.place,.int .i64 f.agreed,.int .i64 f.last,.int .i64 f.line.c,.int .i64 f.line.t,.string ⟨f.line.s.toArray⟩,.slice fa f.lines.length fc,.int .i64 k1,.int .i64 k2,.int .i64 k3,.int .i64 oa]] Y2 fun e y=>e=.returned (.bool r)∧Below Y2.heap.size Y2 y):=fun r hr=>otherTick Y2 W _ gh n cap H W2.out pp K Kr HP2.out ps.me HR2.out.conf.2.1 ⟨10,on,l,f,fa,fc,k1,k2,k3,oa⟩ rfl r hr
  have hx2:x.heap.size≤Y2.heap.size:=B2.out.size
  by_cases hm:ps.me=0
  · have HM:=hid hm
    have HX:=hid (HX.out false (by rw [hm];rfl))
    clear hm
    go_wp2_with fail
    refine HX.out.mono ?_
    rintro e Y3 ⟨rfl,hb3⟩
    have HB3:=hid hb3
    have W3:=hid (W2.out.below hb3)
    have P3:=hid (P2.out.below keepsSaid_ hb3)
    have B3:=hid (B2.out.trans (hb3.mono B2.out.size))
    have HK3:=hid (keepsSaid_ _ _ _ _ _ _ HK2.out (Touch.of_belowAll hb3 (fun _=>False)) (fun _ _ h=>h))
    have HR3:=hid (HR2.out.below hb3)
    have HP3:=hid ((hb3.block _ (heap_lt HP2.out)).trans HP2.out)
    have hs3:Y2.heap.size≤Y3.heap.size:=hb3.size
    clear hb3 HX
    clear u0 u1 u2 u3 u4 u5 u6 u7 u8 u9 u10 u11 u12 u13 u14 u15 u16 p0 p1
    have p0:=cell_of_heap HP3.out 0
    simp only [List.getElem?_toArray,List.getElem?_cons_zero,List.getElem?_cons_succ] at p0
    obtain ⟨d,hd⟩:∃ d,d=ps.tick:=⟨_,rfl⟩
    have HPT:Hid (∀ z,KIs_ z K F ps→Calls Tryz.prog 27 #[.pointer (some ⟨K,0,none⟩)] z (PDid z K F d)):=fun z hz=>by rw [hd];exact progTick ps HIV.out HM.out z K F hz
    have HDT:Hid (∀ z,RIs z Kr G ps→Calls Tryz.prog 66 #[.pointer (some ⟨Kr,0,none⟩)] z (RDid z Kr G d)):=fun z hz=>by rw [hd];exact docTick ps HIV.out HM.out z Kr G hz
    have HDO:Hid d.Ok:=by show d.Ok;rw [hd];exact HIV.out.tick
    clear hd
    obtain ⟨os,er,st⟩:=d
    unfold PDid at HPT
    unfold RDid at HDT
    dsimp only at HPT HDT
    have h20:os.length≤20:=HDO.out.n20
    go_wp2_with fail
    refine (HPT.out Y3 HK3.out).mono ?_
    rintro e Y4 ⟨g,c,gs,cs,F',rfl,ho,hk4,t4,n4,d4⟩
    have T4:=hid t4
    have HK4:=hid hk4
    have HO:=hid ho
    have N4:=hid n4
    have D4:=hid d4
    have HR4:=hid (HR3.out.touch t4 (fun k e e2=>HQ6.out k e2 e))
    have HP4:=hid (t4.heapAt HP3.out HQ7.out)
    have hs4:Y3.heap.size≤Y4.heap.size:=t4.size
    clear t4 hk4 ho n4 d4 p0 HPT
    have p1:=cell_of_heap HP4.out 1
    simp only [List.getElem?_toArray,List.getElem?_cons_zero,List.getElem?_cons_succ] at p1
    unfold sl
    go_wp2_with fail
    refine (HDT.out Y4 HR4.out).mono ?_
    rintro e Y5 ⟨gr,cr,G',rfl,hor,hr5,t5,n5⟩
    have A5:=hid (PS.turn W3.out P3.out hi HPI.out HP3.out HQ5.out HQ6.out HQ7.out HQ8.out HK4.out T4.out N4.out hr5 t5 n5 HDO.out.iv)
    have HO5:Hid (OwnOuts Y3 Y5 g c os gs cs):=HO.out.touch t5 (fun k e e2=>by
      have:=HO.out.in_ k e
      have:=(HFX.out k (.inr (.inr e2))).1
      omega)
    have HOR:=hid hor
    have N5:=hid n5
    clear hor hr5 t5 n5 p1 HDT
    go_wp2_with fail
    refine (sent_any Y5 W (sl (some gP) np cp) true gh n cap H A5.out.1 Y3 g c os gs cs HO5.out gr cr HOR.out (fun k e=>W3.out.free_new (HO5.out.in_ k e).1) h20 HDO.out.bs hn).mono ?_
    rintro e Y6 ⟨rfl,gh',cap',H',kn⟩
    have LA:Hid (LawAt KIs_ IvL x W true (n+(4 * os.length+4)) gh (some gP) Y6):=by
      refine LawAt.keptN A5.out.1 A5.out.2.1 h6 ((Touch.of_belowAll B3.out _).trans A5.out.2.2 (fun k _ e=>.inl (HFX.out k (.inr e)).2)) kn (fun k e=>?_) (fun j hj k hk e=>?_) (fun k e=>HPS.out.own.lt e)
      · have:=(HO5.out.in_ k e).1;omega
      · have h1:=HO.out.in_ k e
        by_cases ej:j=i
        · simp only [if_pos ej] at hk
          rcases hk with q | q | q
          · have:=(HFX.out k (.inl q)).1;omega
          · exact D4.out k e q
          · rcases N5.out k q with q | q
            · have:=(HFX.out k (.inr (.inr q))).1;omega
            · omega
        · simp only [if_neg ej] at hk
          have:=HPS.out.lt j hj k hk;omega
    clear kn
    go_wp2
    go_ret
    exact ⟨ret_bool (by simp),_,by omega,LA.out⟩
  · have HX:=hid (HX.out true (bne_iff_ne.2 hm))
    go_wp2_with fail
    refine HX.out.mono ?_
    rintro e Y3 ⟨rfl,hb3⟩
    have HB3:=hid hb3
    clear hb3 HX
    clear u0 u1 u2 u3 u4 u5 u6 u7 u8 u9 u10 u11 u12 u13 u14 u15 u16 p0 p1
    go_wp2
    go_ret
    exact ⟨rfl,0,by omega,LawAt.still keepsSaid_ HWI.out HPS.out h6 (B2.out.trans (HB3.out.mono B2.out.size))⟩
end
end Go.Proofs.YtolififimldmlaaGreat
