import Derived.Test.YtolififimldmlaaGreatPart06
import Derived.Deep.AppendSrc
import Derived.Test.YtolififimldmlaaGreatPart05
import Derived.Test.YtolififimldmlaaGreatPart01
set_option linter.unusedVariables false
set_option linter.unusedSimpArgs false
set_option maxRecDepth 100000
set_option maxHeartbeats 16000000
namespace Go.Proofs.YtolififimldmlaaGreat
section
open Go.RowKit
attribute [local go_sem ↓] Go.wp_at_zero Go.wp_at_succ
structure KInv (x:World) (W:Nat) (psv:Value) (lead:Bool) (gh:Option Nat) (n:Nat) (H:Nat→HG) (h:HG) (r:Nat) (y:World) (gh':Option Nat) (cap':Nat) (H':Nat→HG) (g:HG):Prop where
  wi:WI y W psv lead gh' (n+1+r) cap' H'
  agree:∀ j,j < n→H' j=H j
  cur:Cur y g
  is:HoldIs y g
  qok:g.qok
  em:g.m=n+1
  ebn:g.bn=h.bn+r
  eln:g.ln=h.ln+r
  eon:g.on=h.on+r
  apart:∀ j,j < n+1+r→∀ k i,(H' j).foot k i→¬ (g.b=some k∧g.bn≤i)∧¬ (g.l=some k∧g.ln * 3≤i)∧¬ (g.o=some k∧g.on * 3≤i)
  gf:∀ k i,g.foot k i→k≠W∧gh'≠some k
  gr:∀ k,g.rows k→k≠W∧gh'≠some k
  tch:Touch (fun k=>k=W∨gh=some k∨k=h.p∨h.rows k) x y
  gha:∀ k,gh'=some k→gh=some k∨x.heap.size≤k
  new:∀ j,n≤j→j < n+1+r→∀ k i,(H' j).foot k i→k=h.p∨h.rows k∨x.heap.size≤k
  grn:∀ k,g.rows k→h.rows k∨x.heap.size≤k
  gfn:∀ k i,g.foot k i→k=h.p∨h.rows k∨x.heap.size≤k
theorem foot_apart {y:World} {g:HG} (hc:Cur y g) (hq:g.qok) (k i:Nat) (hf:g.foot k i):¬ (g.b=some k∧g.bn≤i)∧¬ (g.l=some k∧g.ln * 3≤i)∧¬ (g.o=some k∧g.on * 3≤i):=by
  rcases hf with rfl | ⟨e,hi⟩ | ⟨e,hi⟩ | ⟨e,hi⟩ | ⟨j,hj,rfl⟩
  · exact ⟨fun h=>hc.pb h.1,fun h=>hc.pl h.1,fun h=>hc.po h.1⟩
  · exact ⟨fun h=>by omega,fun h=>hc.bl k e h.1,fun h=>hc.bo k e h.1⟩
  · exact ⟨fun h=>hc.bl k h.1 e,fun h=>by omega,fun h=>hc.lo k e h.1⟩
  · exact ⟨fun h=>hc.bo k h.1 e,fun h=>hc.lo k h.1 e,fun h=>by omega⟩
  · exact ⟨fun h=>hq j hj (.inl h.1),fun h=>hq j hj (.inr (.inl h.1)),fun h=>hq j hj (.inr (.inr h.1))⟩
theorem Cur.rows_lt {y:World} {g:HG} (hc:Cur y g) {k:Nat} (hr:g.rows k):k < y.heap.size:=by
  rcases hr with e | e | e
  · exact hc.rb.lt e
  · exact hc.rl.lt e
  · exact hc.ro.lt e
section
variable {x:World} {W:Nat} {psv:Value} {lead:Bool} {gh:Option Nat} {n:Nat} {H:Nat→HG} {h:HG} {r:Nat} {y:World} {gh':Option Nat} {cap':Nat} {H':Nat→HG} {g:HG}
theorem Longer.rows {y y2:World} {g g2:HG} (L:Longer y g y2 g2) (k:Nat) (hr:g2.rows k):g.rows k∨y.heap.size < k:=by
  rcases hr with e | e | e
  · exact (L.lb k e).imp .inl id
  · exact (L.ll k e).imp (fun e=>.inr (.inl e)) id
  · exact (L.lo k e).imp (fun e=>.inr (.inr e)) id
theorem Longer.foots {y y2:World} {g g2:HG} (L:Longer y g y2 g2) (k i:Nat) (hf:g2.foot k i):g.rows k∨y.heap.size≤k∨g.foot k 0:=by
  rcases hf with rfl | ⟨e,hi⟩ | ⟨e,hi⟩ | ⟨e,hi⟩ | ⟨j,hj,rfl⟩
  · exact .inr (.inl (by rw [L.ep];omega))
  · rcases L.lb k e with e | e
    · exact .inl (.inl e)
    · exact .inr (.inl (by omega))
  · rcases L.ll k e with e | e
    · exact .inl (.inr (.inl e))
    · exact .inr (.inl (by omega))
  · rcases L.lo k e with e | e
    · exact .inl (.inr (.inr e))
    · exact .inr (.inl (by omega))
  · by_cases e:j=g.on
    · subst e;exact .inr (.inl (by have:=L.qn;omega))
    · have hj':j < g.on:=by have:=L.eon;omega
      exact .inr (.inr (.inr (.inr (.inr (.inr ⟨j,hj',L.eq j hj'⟩)))))
theorem KInv.longer (K:KInv x W psv lead gh n H h r y gh' cap' H' g) {y2:World} {g2:HG} (L:Longer y g y2 g2):WI y2 W psv lead gh' (n+1+r) cap' H' :=
  K.wi.touch L.touch (fun e=>(K.gr _ e).1 rfl) (fun k e e'=>(K.gr k e').2 e) (fun j hj k i hf=>by
    obtain ⟨a,b,c⟩:=K.apart j hj k i hf
    exact L.keep k i ((K.wi.is j hj).foot_lt hf) a b c)
theorem KInv.step (K:KInv x W psv lead gh n H h r y gh' cap' H' g) {y2 y3 y4:World} {g2:HG} (L:Longer y g y2 g2) (hs:n+1≤100000000∧h.bn+r+1≤100000000∧h.ln+r+1≤100000000∧h.on+r+1≤100000000)
    {o:Obj} {k4 c4:Nat} (a:AppPost (y2.alloc o) y3 124 1 gh' (n+1+r) 1 [.pointer (some ⟨g2.p,0,none⟩)] k4 c4) (hz:y4=y3.setCell ⟨W,1,none⟩ (.slice (some ⟨k4,0,none⟩) (n+1+r+1) c4)) :
    KInv x W psv lead gh n H h (r+1) y4 (some k4) c4 (fun j=>if j=n+1+r then g2 else H' j) g2:=by
  have w2:=K.longer L
  have hWy:W < y.heap.size:=heap_lt K.wi.wb
  have hgy:∀ k,gh'=some k→k < y.heap.size:=fun k e=>K.wi.ow.lt e
  have gr2:∀ k,g2.rows k→k≠W∧gh'≠some k:=fun k hr=>by
    rcases L.rows k hr with e | e
    · exact K.gr k e
    · exact ⟨by omega,fun e'=>by have:=hgy k e';omega⟩
  have gf2:∀ k i,g2.foot k i→k≠W∧gh'≠some k:=fun k i hf=>by
    rcases L.foots k i hf with e | e | e
    · exact K.gr k e
    · exact ⟨by omega,fun e'=>by have:=hgy k e';omega⟩
    · exact K.gf k 0 e
  have tsz:=L.touch.size
  have xsz:=K.tch.size
  obtain ⟨q1,q2,q3,q4,q5⟩:=w2.push L.cur L.is ⟨by rw [L.em,K.em];exact hs.1,by rw [L.ebn,K.ebn];omega,by rw [L.eln,K.eln];omega,by rw [L.eon,K.eon];omega⟩ gf2 gr2 a hz
  refine ⟨q1,fun j hj=>?_,q2,q3,L.qok,by rw [L.em,K.em],by rw [L.ebn,K.ebn];omega,by rw [L.eln,K.eln];omega,by rw [L.eon,K.eon];omega,fun j hj k i hf=>?_,fun k i hf=>?_,fun k hr=>?_,?_,fun k e=>?_,fun j h1 h2 k i hf=>?_,fun k hr=>?_,fun k i hf=>?_⟩
  · rw [if_neg (by omega)];exact K.agree j hj
  · by_cases e:j=n+1+r
    · rw [if_pos e] at hf
      exact foot_apart L.cur L.qok k i hf
    · rw [if_neg e] at hf
      have hjl:j < n+1+r:=by omega
      obtain ⟨a1,a2,a3⟩:=K.apart j hjl k i hf
      have hk:=(K.wi.is j hjl).foot_lt hf
      have e1:=L.ebn
      have e2:=L.eln
      have e3:=L.eon
      refine ⟨fun q=>?_,fun q=>?_,fun q=>?_⟩
      · rcases L.lb k q.1 with e | e
        · exact a1 ⟨e,by omega⟩
        · omega
      · rcases L.ll k q.1 with e | e
        · exact a2 ⟨e,by omega⟩
        · omega
      · rcases L.lo k q.1 with e | e
        · exact a3 ⟨e,by omega⟩
        · omega
  · refine ⟨(gf2 k i hf).1,fun e=>?_⟩
    have e:=Option.some.inj e
    subst e
    rcases q5 with q | q
    · exact (gf2 _ i hf).2 q
    · have:=L.is.foot_lt hf;omega
  · refine ⟨(gr2 k hr).1,fun e=>?_⟩
    have e:=Option.some.inj e
    subst e
    rcases q5 with q | q
    · exact (gr2 _ hr).2 q
    · have:=L.cur.rows_lt hr;omega
  · refine (K.tch.trans L.touch (fun i hi e=>?_)).trans q4 (fun i hi e=>?_)
    · rcases K.grn i e with e | e
      · exact .inr (.inr (.inr e))
      · omega
    · rcases e with e | e
      · exact .inl e
      · rcases K.gha i e with e | e
        · exact .inr (.inl e)
        · omega
  · have e:=Option.some.inj e
    subst e
    rcases q5 with q | q
    · exact K.gha _ q
    · exact .inr (by omega)
  · by_cases e:j=n+1+r
    · rw [if_pos e] at hf
      rcases L.foots k i hf with e | e | e
      · exact .inr (K.grn k e)
      · exact .inr (.inr (by omega))
      · exact K.gfn k 0 e
    · rw [if_neg e] at hf
      exact K.new j h1 (by omega) k i hf
  · rcases L.rows k hr with e | e
    · exact K.grn k e
    · exact .inr (by omega)
  · rcases L.foots k i hf with e | e | e
    · exact .inr (K.grn k e)
    · exact .inr (.inr (by omega))
    · exact K.gfn k 0 e
end
theorem WI.marks {x x0 x1:World} {W:Nat} {psv:Value} {lead:Bool} {gh:Option Nat} {n cap:Nat} {H:Nat→HG} {h:HG} (w:WI x W psv lead gh n cap H)
    (hap:∀ j,j < n→∀ k i,(H j).foot k i→k≠h.p∧¬ h.rows k) (hpW:h.p≠W) (hpg:gh≠some h.p) (hr:∀ k,h.rows k→k≠W∧gh≠some k)
    (t0:Touch (fun k=>k=h.p) x x0) (ex:x0.heap.size=x.heap.size) (t1:Touch h.rows x0 x1):WI x1 W psv lead gh n cap H:=by
  have cell01:∀ k i,k < x.heap.size→k≠h.p→¬ h.rows k→x1.cell? ⟨k,i,none⟩=x.cell? ⟨k,i,none⟩:=fun k i hk n1 n2 =>
    (World.cell?_of_block (t1.block k (by omega) n2)).trans (World.cell?_of_block (t0.block k hk n1))
  have t01:Touch (fun k=>k=h.p∨h.rows k) x x1:=(t0.mono (fun _ _ e=>.inl e)).trans t1 (fun _ _ e=>.inr e)
  exact w.touch t01 (fun e=>e.elim (fun e=>hpW e.symm) (fun e=>(hr W e).1 rfl)) (fun k e t=>t.elim (fun e'=>hpg (by rw [← e'];exact e)) (fun e'=>(hr k e').2 e))
    (fun j hj k i hf=>cell01 k i ((w.is j hj).foot_lt hf) (hap j hj k i hf).1 (hap j hj k i hf).2)
theorem KInv.first {x x0 x1 y3 y4:World} {W:Nat} {psv:Value} {lead:Bool} {gh:Option Nat} {n cap:Nat} {H:Nat→HG} {h:HG} {q:Nat→Nat} (w:WI x W psv lead gh n cap H)
    (hap:∀ j,j < n→∀ k i,(H j).foot k i→k≠h.p∧¬ h.rows k) (hpW:h.p≠W) (hpg:gh≠some h.p) (hr:∀ k,h.rows k→k≠W∧gh≠some k)
    (c0:Cur x0 { h with m:=n+1 }) (t0:Touch (fun k=>k=h.p) x x0) (ex:x0.heap.size=x.heap.size)
    (c1:Cur x1 { h with m:=n+1,q:=q }) (i1:HoldIs x1 { h with m:=n+1,q:=q }) (hq:∀ j,j < h.on→x0.heap.size≤q j) (t1:Touch h.rows x0 x1)
    (hs:n+1≤100000000∧h.bn≤100000000∧h.ln≤100000000∧h.on≤100000000)
    {o:Obj} {k4 c4:Nat} (a:AppPost (x1.alloc o) y3 124 1 gh n 1 [.pointer (some ⟨h.p,0,none⟩)] k4 c4) (hz:y4=y3.setCell ⟨W,1,none⟩ (.slice (some ⟨k4,0,none⟩) (n+1) c4)) :
    KInv x W psv lead gh n H h 0 y4 (some k4) c4 (fun j=>if j=n then { h with m:=n+1,q:=q } else H j) { h with m:=n+1,q:=q }:=by
  have cell01:∀ k i,k < x.heap.size→k≠h.p→¬ h.rows k→x1.cell? ⟨k,i,none⟩=x.cell? ⟨k,i,none⟩:=fun k i hk n1 n2 =>
    (World.cell?_of_block (t1.block k (by omega) n2)).trans (World.cell?_of_block (t0.block k hk n1))
  have t01:Touch (fun k=>k=h.p∨h.rows k) x x1:=(t0.mono (fun _ _ e=>.inl e)).trans t1 (fun _ _ e=>.inr e)
  have w1:WI x1 W psv lead gh n cap H:=w.touch t01 (fun e=>e.elim (fun e=>hpW e.symm) (fun e=>(hr W e).1 rfl)) (fun k e t=>t.elim (fun e'=>hpg (by rw [← e'];exact e)) (fun e'=>(hr k e').2 e))
    (fun j hj k i hf=>cell01 k i ((w.is j hj).foot_lt hf) (hap j hj k i hf).1 (hap j hj k i hf).2)
  have hqn:∀ j,j < h.on→x.heap.size≤q j:=fun j hj=>by have:=hq j hj;omega
  have rl:∀ k,h.rows k→k < x.heap.size:=fun k e=>by have:=Cur.rows_lt (g:={ h with m:=n+1 }) c0 (k:=k) e;omega
  have hWx:W < x.heap.size:=heap_lt w.wb
  have hgx:∀ k,gh=some k→k < x.heap.size:=fun k e=>w.ow.lt e
  have gf:∀ k i,HG.foot { h with m:=n+1,q:=q } k i→k≠W∧gh≠some k:=fun k i hf=>by
    rcases hf with e | ⟨e,_⟩ | ⟨e,_⟩ | ⟨e,_⟩ | ⟨j,hj,e⟩
    · dsimp only at e;rw [e];exact ⟨hpW,hpg⟩
    · exact hr k (.inl e)
    · exact hr k (.inr (.inl e))
    · exact hr k (.inr (.inr e))
    · dsimp only at e hj;have:=hqn j hj;exact ⟨by omega,fun e'=>by have:=hgx k e';omega⟩
  have qok:HG.qok { h with m:=n+1,q:=q }:=fun j hj hrw=>by
    have h1:=rl _ hrw
    have:=hqn j hj
    dsimp only at h1
    omega
  obtain ⟨q1,q2,q3,q4,q5⟩:=w1.push c1 i1 hs gf hr a hz
  have s1:=t01.size
  refine ⟨q1,fun j hj=>by rw [if_neg (by omega)],q2,q3,qok,rfl,rfl,rfl,rfl,fun j hj k i hf=>?_,fun k i hf=>?_,fun k hrw=>?_,?_,fun k e=>?_,fun j h1 h2 k i hf=>?_,fun k e=>.inl e,fun k i hf=>?_⟩
  · by_cases e:j=n
    · rw [if_pos e] at hf
      exact foot_apart c1 qok k i hf
    · rw [if_neg e] at hf
      have:=(hap j (by omega) k i hf).2
      exact ⟨fun q=>this (.inl q.1),fun q=>this (.inr (.inl q.1)),fun q=>this (.inr (.inr q.1))⟩
  · refine ⟨(gf k i hf).1,fun e=>?_⟩
    have e:=Option.some.inj e
    subst e
    rcases q5 with q | q
    · exact (gf _ i hf).2 q
    · have:=i1.foot_lt hf;omega
  · refine ⟨(hr k hrw).1,fun e=>?_⟩
    have e:=Option.some.inj e
    subst e
    rcases q5 with q | q
    · exact (hr _ hrw).2 q
    · have:=rl _ hrw;omega
  · exact (t01.mono (fun _ _ e=>e.elim (fun e=>.inr (.inr (.inl e))) (fun e=>.inr (.inr (.inr e))))).trans q4 (fun _ _ e=>e.elim .inl (fun e=>.inr (.inl e)))
  · have e:=Option.some.inj e
    subst e
    rcases q5 with q | q
    · exact .inl q
    · exact .inr (by omega)
  · have e:j=n:=by omega
    rw [if_pos e] at hf
    rcases hf with e | ⟨e,_⟩ | ⟨e,_⟩ | ⟨e,_⟩ | ⟨j,hj,e⟩
    · exact .inl e
    · exact .inr (.inl (.inl e))
    · exact .inr (.inl (.inr (.inl e)))
    · exact .inr (.inl (.inr (.inr e)))
    · dsimp only at e hj;have:=hqn j hj;exact .inr (.inr (by omega))
  · rcases hf with e | ⟨e,_⟩ | ⟨e,_⟩ | ⟨e,_⟩ | ⟨j,hj,e⟩
    · exact .inl e
    · exact .inr (.inl (.inl e))
    · exact .inr (.inl (.inr (.inl e)))
    · exact .inr (.inl (.inr (.inr e)))
    · dsimp only at e hj;have:=hqn j hj;exact .inr (.inr (by omega))
theorem Cur.setMark {x:World} {h:HG} (hc:Cur x h) (m:Nat):Cur (x.setCell ⟨h.p,3,none⟩ (.int .i64 m)) { h with m:=m }:=by
  have t:Touch (fun k=>k=h.p) x (x.setCell ⟨h.p,3,none⟩ (.int .i64 m)):=(Touch.refl (fun k=>k=h.p) x).setCell (p:=⟨h.p,3,none⟩) (fun _=>rfl) _
  refine ⟨?_,hc.rb.touch t (fun g e e'=>hc.pb (by rw [← e'];exact e)),hc.rl.touch t (fun g e e'=>hc.pl (by rw [← e'];exact e)),hc.ro.touch t (fun g e e'=>hc.po (by rw [← e'];exact e)),hc.pb,hc.pl,hc.po,hc.bl,hc.bo,hc.lo⟩
  rw [heap_setCell hc.hp];rfl
structure Kept (x:World) (W:Nat) (psv:Value) (lead:Bool) (gh:Option Nat) (n:Nat) (H:Nat→HG) (h:HG) (y:World) (gh':Option Nat) (cap':Nat) (H':Nat→HG):Prop where
  wi:WI y W psv lead gh' (n+4) cap' H'
  tch:Touch (fun k=>k=W∨gh=some k∨k=h.p∨h.rows k) x y
  gha:∀ k,gh'=some k→gh=some k∨x.heap.size≤k
  old:∀ j,j < n→H' j=H j
  new:∀ j,n≤j→j < n+4→∀ k i,(H' j).foot k i→k=h.p∨h.rows k∨x.heap.size≤k
theorem keep_any (x:World) (W:Nat) (psv:Value) (lead:Bool) (gh:Option Nat) (n cap:Nat) (H:Nat→HG) (h:HG) (hw:WI x W psv lead gh n cap H) (hc:Cur x h)
    (hap:∀ j,j < n→∀ k i,(H j).foot k i→k≠h.p∧¬ h.rows k) (hpW:h.p≠W) (hpg:gh≠some h.p) (hr:∀ k,h.rows k→k≠W∧gh≠some k)
    (hn:n≤99999990) (hb:h.bn≤99999990) (hl:h.ln≤99999990) (ho:h.on≤99999990) :
    Calls Tryz.prog 58 #[.pointer (some ⟨W,0,none⟩),.pointer (some ⟨h.p,0,none⟩)] x fun e y=>e=.returned (.tuple #[])∧∃ gh' cap' H',Kept x W psv lead gh n H h y gh' cap' H':=by
  have HWI:=hid hw
  have HC:=hid hc
  have HAP:=hid hap
  have HPG:=hid hpg
  have HR:=hid hr
  have HPW:=hid hpW
  have t0:Hid (Touch (fun k=>k=h.p) x (x.setCell ⟨h.p,3,none⟩ (.int .i64 ((n+1:Nat):Int)))):=(Touch.refl (fun k=>k=h.p) x).setCell (p:=⟨h.p,3,none⟩) (fun _=>rfl) _
  have C0:=hid (hc.setMark (n+1))
  have a1:x.cell? ⟨W,1,none⟩=_:=cell_of_heap hw.wb 1
  have a3:x.cell? ⟨h.p,3,none⟩=_:=cell_of_heap hc.hp 3
  have f3:x.frozen? ⟨h.p,3,none⟩=false:=frozen_of_heap hc.hp 3
  simp only [List.getElem?_toArray,List.getElem?_cons_zero,List.getElem?_cons_succ] at a1 a3
  unfold sl at a1
  clear hw hc hap hpg hr hpW
  have e1:((n:Int)+1)=((n+1:Nat):Int):=by omega
  have HE1:=hid e1
  clear e1
  obtain ⟨ip,hip,hip0,hip1,hip2⟩:=info_parts Tryz.info124
  go_enter Tryz.func58,Tryz.ntmps58
  go_wp2_with fail
  rw [HE1.out]
  refine (marks_any { h with m:=n+1 } _ C0.out (by dsimp only;omega) (by dsimp only;omega) (by dsimp only;omega) (by dsimp only;omega)).mono ?_
  rintro e x1 ⟨rfl,q,c1,i1,hq,t1⟩
  have HC1:=hid c1
  have HI1:=hid i1
  have HQ:=hid hq
  have T1:Hid (Touch h.rows _ x1):=t1
  clear c1 i1 hq t1
  have W1:=hid (HWI.out.marks (h:=h) HAP.out HPW.out HPG.out HR.out t0.out (by simp [World.setCell]) T1.out)
  clear a1 a3 f3
  have a1:x1.cell? ⟨W,1,none⟩=_:=cell_of_heap W1.out.wb 1
  simp only [List.getElem?_toArray,List.getElem?_cons_zero,List.getElem?_cons_succ] at a1
  unfold sl at a1
  have ow1:Hid (OwnRow (x1.alloc (.cells #[.pointer (some ⟨h.p,0,none⟩)] 124)) 124 1 gh n cap):=W1.out.ow.alloc _
  go_wp2_with (at_builtin;refine wpList_app _ rfl (.tmp 21) (.tmp 23) 79 rfl 124 ip (.pointer none) 1 8 Tryz.underlying79 hip hip0 hip1 hip2 rfl gh n cap (by rfl) ow1.out ⟨x1.heap.size,0,none⟩ 1 1 [.pointer (some ⟨h.p,0,none⟩)] rfl rfl ?c1 ?c2 (by omega) (by omega) (by omega) ?_)
  case c1 =>
    intro j u hj
    match j,hj with
    | 0,hj=>simp at hj;subst hj;simp [Addr.add]
  case c2=>intro u hu;simp at hu;subst hu;rfl
  intro k4 c4 y3 P
  have K0:=hid (KInv.first HWI.out HAP.out HPW.out HPG.out HR.out C0.out t0.out (by simp [World.setCell]) HC1.out HI1.out HQ.out T1.out ⟨by omega,by omega,by omega,by omega⟩ P rfl)
  have hWy:y3.heap[W]?=_:=P.touch.heapAt (o:=.cells #[psv,sl gh n cap,.bool lead] 81 (0,0)) (by rw [Below.heap_alloc _ _ _ (heap_lt W1.out.wb)];exact W1.out.wb) W1.out.hw
  have b1:y3.cell? ⟨W,1,none⟩=_:=cell_of_heap hWy 1
  have f1:y3.frozen? ⟨W,1,none⟩=false:=frozen_of_heap hWy 1
  simp only [List.getElem?_toArray,List.getElem?_cons_zero,List.getElem?_cons_succ] at b1
  clear hWy P
  go_wp2
  clear b1 f1 a1
  generalize y3.setCell ⟨W,1,none⟩ (.slice (some ⟨k4,0,none⟩) (n+1) c4)=y4 at K0 ⊢
  go_loopw [4,5] (fun v i yr=>∃ (r:Nat) (gh':Option Nat) (cap':Nat) (H':Nat→HG) (g:HG),r≤3∧i=.int .i64 r∧v=.pointer (some ⟨g.p,0,none⟩)∧KInv x W psv lead gh n H h r yr gh' cap' H' g) (fun _ i _=>3 - (intOf i).toNat)
  case atStart=>exact ⟨0,_,_,_,{ h with m:=n+1,q:=q },by omega,rfl,rfl,K0.out⟩
  case round =>
    obtain ⟨r,gh',cap',H',g,hr3,rfl,rfl,K⟩:=hrel
    have HK:=hid K
    by_cases hlt:r < 3
    · clear K
      have em:=HK.out.em
      have ebn:=HK.out.ebn
      have eln:=HK.out.eln
      have eon:=HK.out.eon
      have hm1:g.m≤100000000:=by omega
      have hm2:g.bn≤100000000:=by omega
      have hm3:g.ln≤100000000:=by omega
      have hm4:g.on≤100000000:=by omega
      clear em ebn eln eon
      go_wp2_with fail
      refine (longer_any g _ HK.out.cur HK.out.is HK.out.qok hm1 hm2 hm3 hm4).mono ?_
      rintro e y2 ⟨g2,rfl,L⟩
      have HL:=hid L
      clear L
      have W2:=hid (HK.out.longer HL.out)
      have a1:y2.cell? ⟨W,1,none⟩=_:=cell_of_heap W2.out.wb 1
      simp only [List.getElem?_toArray,List.getElem?_cons_zero,List.getElem?_cons_succ] at a1
      unfold sl at a1
      have ow2:Hid (OwnRow (y2.alloc (.cells #[.pointer (some ⟨g2.p,0,none⟩)] 124)) 124 1 gh' (n+1+r) cap'):=W2.out.ow.alloc _
      go_wp2_with (at_builtin;refine wpList_app _ rfl (.tmp 38) (.tmp 40) 79 rfl 124 ip (.pointer none) 1 8 Tryz.underlying79 hip hip0 hip1 hip2 rfl gh' (n+1+r) cap' (by rfl) ow2.out ⟨y2.heap.size,0,none⟩ 1 1 [.pointer (some ⟨g2.p,0,none⟩)] rfl rfl ?d1 ?d2 (by omega) (by omega) (by omega) ?_)
      case d1 =>
        intro j u hj
        match j,hj with
        | 0,hj=>simp at hj;subst hj;simp [Addr.add]
      case d2=>intro u hu;simp at hu;subst hu;rfl
      intro k5 c5 y5 P
      have K1:=hid (HK.out.step HL.out ⟨by omega,by omega,by omega,by omega⟩ P rfl)
      have hWy:y5.heap[W]?=_:=P.touch.heapAt (o:=.cells #[psv,sl gh' (n+1+r) cap',.bool lead] 81 (0,0)) (by rw [Below.heap_alloc _ _ _ (heap_lt W2.out.wb)];exact W2.out.wb) W2.out.hw
      have b1:y5.cell? ⟨W,1,none⟩=_:=cell_of_heap hWy 1
      have f1:y5.frozen? ⟨W,1,none⟩=false:=frozen_of_heap hWy 1
      simp only [List.getElem?_toArray,List.getElem?_cons_zero,List.getElem?_cons_succ] at b1
      clear hWy P
      go_wp2
      go_roundw
      case rel=>exact ⟨r+1,_,_,_,g2,by omega,by go_num,rfl,K1.out⟩
      case measure=>simp [intOf];omega
    · have e3:r=3:=by omega
      subst e3
      go_wp2
      go_end0
      exact ⟨rfl,gh',cap',H',K.wi,K.tch,K.gha,K.agree,K.new⟩
theorem run_cpy {P:Program} (w:World) (dT sT ty e:TypeId) (i:TypeInfo) (hu:P.underlying dT=some (.slice e)) (hi:P.info? e=some i) (g dLen dCap:Nat) (cur:Array Value) (t:TypeId) (hg:w.heap[g]?=some (.cells cur t (0,0)))
    (x:Value) (n:Nat) (news:List Value) (hs:Src P i.size sT x n news w) (hn:n≤dLen) (hfit:news.length≤cur.size) :
    (Builtin.copy_ #[dT,sT] ty #[.slice (some ⟨g,0,none⟩) dLen dCap,x]).run P w=.ok (goInt n) (w.setRow g (news++cur.toList.drop news.length).toArray):=by
  have hst:=run_storeCells_at P g 0 t news 0 cur w hg (by simpa using hfit) hs.one
  simp only [Nat.add_zero,Nat.zero_add,List.take_zero,List.nil_append] at hst
  simp [Builtin.copy_,run_underlying hu,sizeOf,typeInfo,hi,hs.len,Nat.min_eq_left hn,hs.cells,hst]
structure Lent (w:World) (g:Nat) (l:List UInt8):Prop where
  own:OwnRow w 5 1 (some g) (l.length+8) (l.length+8)
  at_:∀ j,(h:j < l.length)→w.cell? ⟨g,j,none⟩=some (.int .u8 l[j].toNat)
  sp:∀ j,l.length≤j→j < l.length+8→w.cell? ⟨g,j,none⟩=some (.int .u8 201)
theorem Lent.touch {T:Nat→Prop} {w w':World} {g:Nat} {l:List UInt8} (h:Lent w g l) (ht:Touch T w w') (hn:¬ T g):Lent w' g l :=
  ⟨h.own.touch ht (fun k e=>by cases e;exact hn),fun j hj=>ht.cell (h.at_ j hj) hn,fun j h1 h2=>ht.cell (h.sp j h1 h2) hn⟩
theorem Lent.below {w w':World} {g:Nat} {l:List UInt8} (h:Lent w g l) (hb:Below w.heap.size w w'):Lent w' g l:=h.touch (T:=fun _=>False) (Touch.of_belowAll hb _) (fun e=>e)
theorem lent_any (l:List UInt8) (w:World) (hn:l.length≤10000000) :
    Calls Tryz.prog 62 #[.string ⟨l.toArray⟩] w fun e w'=>e=.returned (.slice (some ⟨w.heap.size,0,none⟩) (l.length+8) (l.length+8))∧Lent w' w.heap.size l∧Below w.heap.size w w':=by
  obtain ⟨ib,hib,hib0,hib1,hib2⟩:=info_parts Tryz.info5
  have hmk:=fun (w:World)=>run_make (P:=Tryz.prog) w 31 5 ib (.int .u8 0) Tryz.underlying31 hib hib0 .i64 .i64 ((l.length:Int)+8) ((l.length:Int)+8) (by omega) (by omega) (by rw [hib2];omega) (by omega)
  simp only [hib1,show ((l.length:Int)+8).toNat=l.length+8 from by omega,Nat.mul_one] at hmk
  have hg:(w.alloc (.cells (madeCells #[.int .u8 0] (l.length+8)) 5)).heap[w.heap.size]?=some (.cells (madeCells #[.int .u8 0] (l.length+8)) 5 (0,0)):=heap_alloc_new w _
  have hsz:(madeCells #[.int .u8 0] (l.length+8)).size=l.length+8:=size_madeCells _ _
  have hcp:=fun ty=>run_cpy (P:=Tryz.prog) (w.alloc (.cells (madeCells #[.int .u8 0] (l.length+8)) 5)) 31 9 ty 5 ib Tryz.underlying31 hib w.heap.size (l.length+8) (l.length+8) _ 5 hg (.string ⟨l.toArray⟩) _ _ (by rw [hib1];exact Src.ofString _ Tryz.underlying9 ⟨l.toArray⟩) (by show l.length≤_;omega) (by rw [byteCells_length,hsz];show l.length≤_;omega)
  have hss:(⟨l.toArray⟩:ByteArray).size=l.length:=rfl
  rw [hss] at hcp
  have HG:=hid hg
  have HSZ:=hid hsz
  clear hg hsz hss
  go_enter Tryz.func62,Tryz.ntmps62
  have HC:Hid (∀ W:World,W=(w.alloc (.cells (madeCells #[.int .u8 0] (l.length+8)) 5)).setRow w.heap.size (byteCells ⟨l.toArray⟩++List.drop (byteCells ⟨l.toArray⟩).length (madeCells #[.int .u8 0] (l.length+8)).toList).toArray →
      OwnRow W 5 1 (some w.heap.size) (l.length+8) (l.length+8)∧(∀ j,(h:j < l.length)→W.cell? ⟨w.heap.size,j,none⟩=some (.int .u8 l[j].toNat))∧Below w.heap.size w W):=fun W hW=>by
    have hbl:(byteCells ⟨l.toArray⟩).length=l.length:=byteCells_length _
    have hr:=setRow_heap _ w.heap.size _ (byteCells ⟨l.toArray⟩++List.drop (byteCells ⟨l.toArray⟩).length (madeCells #[.int .u8 0] (l.length+8)).toList).toArray 5 (0,0) HG.out
    rw [← hW] at hr
    have hsz:=HSZ.out
    refine ⟨.inr ⟨_,_,rfl,hr,?_,Nat.le_refl _,by simp only [maxLen];omega⟩,fun j hj=>?_,?_⟩
    · simp only [List.size_toArray,List.length_append,List.length_drop,Array.length_toList,hbl,hsz];omega
    · rw [cell_of_heap hr]
      simp only [List.getElem?_toArray]
      rw [List.getElem?_append_left (by omega)]
      simp [byteCells,List.getElem?_eq_getElem hj]
    · rw [hW];exact below_setRow ((Below.refl _ _).alloc (Nat.le_refl _) _) (Nat.le_refl _) _
  go_wp2
  obtain ⟨W1,hW1⟩:∃ W1,W1=(w.alloc (.cells (madeCells #[.int .u8 0] (l.length+8)) 5)).setRow w.heap.size (byteCells ⟨l.toArray⟩++List.drop (byteCells ⟨l.toArray⟩).length (madeCells #[.int .u8 0] (l.length+8)).toList).toArray:=⟨_,rfl⟩
  have HF:=hid (HC.out W1 hW1)
  rw [← hW1]
  clear hW1 HC HG HSZ hcp hmk
  go_loopw [4] (fun i wr=>∃ k:Nat,l.length≤k∧k≤l.length+8∧i=.int .i64 k∧Hid (OwnRow wr 5 1 (some w.heap.size) (l.length+8) (l.length+8)∧(∀ j,(h:j < l.length)→wr.cell? ⟨w.heap.size,j,none⟩=some (.int .u8 l[j].toNat)) ∧
      (∀ j,l.length≤j→j < k→wr.cell? ⟨w.heap.size,j,none⟩=some (.int .u8 201))∧Below w.heap.size w wr)) (fun i _=>l.length+8 - (intOf i).toNat)
  case atStart=>exact ⟨l.length,Nat.le_refl _,by omega,rfl,HF.out.1,HF.out.2.1,fun j h1 h2=>by omega,HF.out.2.2⟩
  case round =>
    obtain ⟨k,hk1,hk2,rfl,HI⟩:=hrel
    by_cases hlt:k < l.length+8
    · obtain ⟨v0,dg,df⟩:=ownRow_cell (j:=k) HI.out.1 (by omega)
      go_wp2
      go_roundw
      case rel =>
        obtain ⟨a1,a2,a3,a4⟩:=HI.out
        refine ⟨k+1,by omega,by omega,by go_num,a1.set _ _,fun j hj=>?_,fun j h1 h2=>?_,a4.setCell (Nat.le_refl _) _⟩
        · rw [cell_set_ne _ (by omega)];exact a2 j hj
        · by_cases e:j=k
          · subst e;exact cell_set_same _ dg
          · rw [cell_set_ne _ (by omega)];exact a3 j h1 (by omega)
      case measure=>simp [intOf];omega
    · go_wp2
      go_ret
      obtain ⟨a1,a2,a3,a4⟩:=HI.out
      exact ⟨rfl,⟨a1,a2,fun j h1 h2=>a3 j h1 (by omega)⟩,a4⟩
theorem still_any (l:List UInt8) (g c:Nat) (w:World) (hn:l.length≤10000000) (hl:Lent w g l) :
    Calls Tryz.prog 64 #[.slice (some ⟨g,0,none⟩) (l.length+8) c,.string ⟨l.toArray⟩] w fun e w'=>e=.returned (.bool true)∧Below w.heap.size w w':=by
  have HL:=hid hl
  clear hl
  go_enter Tryz.func64,Tryz.ntmps64
  go_wp2
  go_loopw [5] (fun i wr=>∃ (k m:Nat),k≤l.length+8∧i=.int .i64 k∧wr=w.drewN m) (fun i _=>l.length+8 - (intOf i).toNat)
  case atStart=>exact ⟨0,0,Nat.zero_le _,rfl,rfl⟩
  case round =>
    obtain ⟨k,m,hk,rfl,rfl⟩:=hrel
    by_cases hlt:k < l.length+8
    · have b1:(0:Int)≤(k:Int):=by omega
      have b2:(k:Int) < (l.length:Int)+8:=by omega
      by_cases hl:k < l.length
      · have h0:=HL.out.at_ k hl
        have b3:(k:Int) < (l.length:Int):=by omega
        have hne:((l[k].toNat:Int) != (l[k].toNat:Int))=false:=by simp
        have hne2:∀ hh,((l[k].toNat:Int) != (((⟨l.toArray⟩:ByteArray)[k]'hh).toNat:Int))=false:=fun hh=>hne
        have b5:decide ((k:Int) < (l.length:Int))=true:=by simp;omega
        have b6:decide ((l.length:Int)≤(k:Int))=false:=by simp;omega
        have b7:decide (l.length≤k)=false:=by simp;omega
        go_wp2
        go_quiet (fail)
        go_wp2
        go_roundw
        case rel=>exact ⟨k+1,_,by omega,by go_num,rfl⟩
        case measure=>simp [intOf];omega
      · have h0:=HL.out.sp k (by omega) hlt
        have b3:decide ((k:Int) < (l.length:Int))=false:=by simp;omega
        have b4:decide ((l.length:Int)≤(k:Int))=true:=by simp;omega
        have b5:decide (k < l.length)=false:=by simp;omega
        have b6:decide (l.length≤k)=true:=by simp;omega
        have b7:((201:Int) != 201)=false:=rfl
        go_wp2
        go_quiet (fail)
        go_wp2
        go_roundw
        case rel=>exact ⟨k+1,_,by omega,by go_num,rfl⟩
        case measure=>simp [intOf];omega
    · go_wp2
      go_ret
      exact ⟨rfl,below_drewN (Below.refl _ _) _⟩
theorem sameLines_any (a b:Option Addr) (c d:Nat) (ls:List Ln) (w:World) (hn:ls.length≤100000000) (ha:LinesAt w a ls) (hb:LinesAt w b ls) :
    Calls Tryz.prog 56 #[sla a ls.length c,sla b ls.length d] w fun e w'=>e=.returned (.bool true)∧Below w.heap.size w w':=by
  have HA:=hid ha
  have HB:=hid hb
  clear ha hb
  unfold sla
  have hz:((ls.length:Int) != (ls.length:Int))=false:=by simp
  go_enter Tryz.func56,Tryz.ntmps56
  go_wp2
  go_loopw [5] (fun i wr=>∃ (k m:Nat),k≤ls.length∧i=.int .i64 k∧wr=w.drewN m) (fun i _=>ls.length - (intOf i).toNat)
  case atStart=>exact ⟨0,0,Nat.zero_le _,rfl,rfl⟩
  case round =>
    obtain ⟨k,m,hk,rfl,rfl⟩:=hrel
    by_cases hlt:k < ls.length
    · have b1:(0:Int)≤(k:Int):=by omega
      have b2:(k:Int) < (ls.length:Int):=by omega
      obtain ⟨g,o,rfl,h0,h1,h2⟩:=HA.out k hlt
      obtain ⟨g',o',rfl,h0',h1',h2'⟩:=HB.out k hlt
      generalize ls[k]=x at h0 h1 h2 h0' h1' h2'
      have hx:(x.s == x.s)=true:=by simp
      go_wp2
      go_quiet (fail)
      go_wp2
      go_roundw
      case rel=>exact ⟨k+1,_,by omega,by go_num,rfl⟩
      case measure=>simp [intOf];omega
    · go_wp2
      go_ret
      exact ⟨rfl,below_drewN (Below.refl _ _) _⟩
theorem frame_any (f:Fr) (a:Option Addr) (cap:Nat) (w:World) (hl:LinesAt w a f.lines) (hn:f.lines.length≤100000000) (hcap:f.lines.length≤cap) :
    Calls Tryz.prog 29 #[f.val a cap] w fun e w'=>e=.returned (.string ⟨(packS f).toArray⟩)∧Below w.heap.size w w':=by
  have HP:=hid (fun w1 (h:Below w.heap.size w w1)=>refPack_any f a cap w1 (hl.below h) hn hcap)
  clear hl
  unfold Fr.val sla at HP ⊢
  go_enter Tryz.func29,Tryz.ntmps29
  go_wp2_with fail
  refine (HP.out _ ((Below.refl _ _).alloc (Nat.le_refl _) _)).mono ?_
  rintro e w1 ⟨rfl,hb1⟩
  go_wp2
  go_ret
  exact ⟨rfl,((Below.refl _ _).alloc (Nat.le_refl _) _).trans (hb1.mono (by simp))⟩
structure OwnBytes (w w':World) (g:Option Nat) (c:Nat) (l:List UInt8):Prop where
  at_:BytesAt w' g l
  own:OwnRow w' 5 1 g l.length c
  new:∀ k,g=some k→w.heap.size≤k
theorem OwnBytes.below {w x y:World} {g:Option Nat} {c:Nat} {l:List UInt8} (h:OwnBytes w x g c l) (hb:Below x.heap.size x y):OwnBytes w y g c l :=
  ⟨fun j hj=>by obtain ⟨k,e,hc⟩:=h.at_ j hj;exact ⟨k,e,(hb.cell (World.block_lt_of_cell? _ _ hc)).trans hc⟩,h.own.touch (T:=fun _=>False) (Touch.of_belowAll hb _) (fun _ _ e=>e),h.new⟩
theorem conv_bytes (g:Option Nat) (c:Nat) (l:List UInt8) (w:World) (h:BytesAt w g l) :
    (convert 31 9 (.slice (g.map fun k=>⟨k,0,none⟩) l.length c)).run Tryz.prog w=.ok (.string ⟨l.toArray⟩) w:=by
  cases g with
  | none =>
    have:l=[]:=by
      cases l with
      | nil=>rfl
      | cons x xs=>obtain ⟨k,e,_⟩:=h 0 (by simp);cases e
    subst this
    exact run_convert_bytes_nil w 31 5 Tryz.underlying31 Tryz.underlying5 0 c 9 Tryz.underlying9
  | some k =>
    have:=convN k l.length c (l.map fun b=>(b.toNat:Int)) w (by simp) (fun i hi=>by
      obtain ⟨k',e,hc⟩:=h i hi
      cases e
      rw [hc];simp [List.getD,hi])
    rw [List.map_map,show (fun n:Int=>UInt8.ofNat n.toNat) ∘ (fun b:UInt8=>(b.toNat:Int))=id from by funext b;simp,List.map_id] at this
    exact this
def lnCells (ls:List Ln):List Value:=ls.flatMap Ln.cells
theorem lnCells_len (ls:List Ln):(lnCells ls).length=ls.length * 3:=by
  induction ls with
  | nil=>rfl
  | cons a l ih =>
    unfold lnCells at *
    rw [List.flatMap_cons,List.length_append,ih,List.length_cons]
    simp only [Ln.cells,List.length_cons,List.length_nil];omega
theorem lnCells_at (ls:List Ln):∀ (j r:Nat) (hj:j < ls.length),r < 3→(lnCells ls)[j * 3+r]?=(Ln.cells ls[j])[r]?:=by
  induction ls with
  | nil=>intro j r hj;exact absurd hj (by simp)
  | cons a l ih =>
    intro j r hj hr
    unfold lnCells at *
    rw [List.flatMap_cons]
    cases j with
    | zero=>rw [List.getElem?_append_left (by simp [Ln.cells];omega)];simp
    | succ j =>
      rw [List.getElem?_append_right (by simp [Ln.cells];omega)]
      have:=ih j r (by simp at hj;omega) hr
      rw [show (j+1) * 3+r - (Ln.cells a).length=j * 3+r from by simp [Ln.cells];omega,this]
      simp
theorem lnCells_one (ls:List Ln):∀ u ∈ lnCells ls,u.oneCell'=true:=by
  intro u hu
  unfold lnCells at hu
  obtain ⟨l,_,h⟩:=List.mem_flatMap.1 hu
  simp [Ln.cells] at h
  rcases h with rfl | rfl | rfl <;> rfl
theorem lines_src (a:Option Addr) (cap:Nat) (ls:List Ln) (w:World) (h:LinesAt w a ls) :
    Src Tryz.prog 3 28 (.slice a ls.length cap) ls.length (lnCells ls) w:=by
  cases a with
  | none =>
    have:ls=[]:=by
      cases ls with
      | nil=>rfl
      | cons x xs=>obtain ⟨g,o,e,_⟩:=h 0 (by simp);cases e
    subst this
    exact Src.ofNil w Tryz.underlying28 cap
  | some p =>
    refine Src.ofSlice w Tryz.underlying28 p ls.length cap _ (lnCells_len ls) (fun j u hu=>?_) (lnCells_one ls)
    have hl:=lnCells_len ls
    have hj:j < ls.length * 3:=by
      rcases Nat.lt_or_ge j (ls.length * 3) with h | h
      · exact h
      · rw [List.getElem?_eq_none (by omega)] at hu;cases hu
    obtain ⟨g,o,e,h0,h1,h2⟩:=h (j / 3) (by omega)
    cases e
    rw [addr_add]
    have ej:j=j / 3 * 3+j % 3:=by omega
    rw [ej] at hu ⊢
    rw [lnCells_at ls (j / 3) (j % 3) (by omega) (by omega)] at hu
    have h3:j % 3=0∨j % 3=1∨j % 3=2:=by omega
    rcases h3 with e | e | e
    · rw [e] at hu ⊢;cases hu;exact h0
    · rw [e] at hu ⊢;cases hu;rw [← Nat.add_assoc];exact h1
    · rw [e] at hu ⊢;cases hu;rw [← Nat.add_assoc];exact h2
def BytesIn (w:World) (a:Option Addr) (l:List UInt8):Prop :=
  ∀ j (h:j < l.length),∃ g o,a=some ⟨g,o,none⟩∧w.cell? ⟨g,o+j,none⟩=some (.int .u8 l[j].toNat)
theorem wrap16 (n:Int):IntKind.u16.wrap n=n % 65536:=by
  have:IntKind.u16.wrap n=n.emod 65536:=by simp [IntKind.wrap,IntKind.bits,IntKind.signed];rfl
  exact this
theorem sum_any (a:Option Addr) (cap:Nat) (l:List UInt8) (w:World) (hl:BytesIn w a l) (hn:l.length≤100000000) :
    Calls Tryz.prog 117 #[sla a l.length cap] w fun e w'=>e=.returned (.int .u16 (chk l:Int))∧w'=w:=by
  have HL:=hid hl
  clear hl
  unfold sla
  go_enter Tryz.func117,Tryz.ntmps117
  go_wp2
  go_loop [3,8] (fun n i=>∃ (k c:Nat),k≤l.length∧i=.int .i64 k∧n=.int .u16 c∧c < 65536∧Hid (c=chk (l.take k))) (fun _ i=>l.length - (intOf i).toNat)
  case atStart=>exact ⟨0,7,Nat.zero_le _,rfl,rfl,by omega,rfl⟩
  case round =>
    obtain ⟨k,c,hk,rfl,rfl,hc,hv⟩:=hrel
    by_cases hlt:k < l.length
    · obtain ⟨g,o,rfl,h0⟩:=HL.out k hlt
      have hb:(l[k].toNat:Int) < 256:=by have:=l[k].toNat_lt;omega
      have hb0:(0:Int)≤(l[k].toNat:Int):=by omega
      have HC:Hid (((c:Int) * 31+(l[k].toNat:Int)) % 65536=(chk (l.take (k+1)):Int)):=by
        show _=_;rw [hv.out];exact chkInt l k hlt
      have HL2:Hid (chk (l.take (k+1)) < 65536):=chk_lt _
      go_wp2
      go_round
      case rel=>exact ⟨k+1,chk (l.take (k+1)),by omega,by go_num,by rw [wrap16,wrap16,← HC.out];congr 1;omega,HL2.out,rfl⟩
      case measure=>simp [intOf];omega
    · go_wp2
      go_ret
      have e:k=l.length:=by omega
      subst e
      have hv:=hv.out
      rw [List.take_length] at hv
      exact ⟨ret_int (by rw [hv]),rfl⟩
end
end Go.Proofs.YtolififimldmlaaGreat
