import Derived.Test.YtolififimldmlaaGreatPart05
import Derived.Test.YtolififimldmlaaGreatPart08
import Derived.Deep.AppendSrc
set_option linter.unusedVariables false
set_option linter.unusedSimpArgs false
set_option maxRecDepth 100000
set_option maxHeartbeats 16000000
namespace Go.Proofs.YtolififimldmlaaGreat
section
open Go.RowKit
attribute [local go_sem ↓] Go.wp_at_zero Go.wp_at_succ
theorem Cur.setMark {x:World} {h:HG} (hc:Cur x h) (m:Nat):Cur (x.setCell ⟨h.p,3,none⟩ (.int .i64 m)) { h with m:=m }:=by
  have t:Touch (fun k=>k=h.p) x (x.setCell ⟨h.p,3,none⟩ (.int .i64 m)):=(Touch.refl (fun k=>k=h.p) x).setCell (p:=⟨h.p,3,none⟩) (fun _=>rfl) _
  refine ⟨?_,hc.rb.touch t (fun g e e'=>hc.pb (by rw [← e'];exact e)),hc.rl.touch t (fun g e e'=>hc.pl (by rw [← e'];exact e)),hc.ro.touch t (fun g e e'=>hc.po (by rw [← e'];exact e)),hc.pb,hc.pl,hc.po,hc.bl,hc.bo,hc.lo⟩
  rw [heap_setCell hc.hp];rfl
structure Kept (x:World) (W:Nat) (psv:Value) (lead:Bool) (gh:Option Nat) (n:Nat) (H:Nat→HG) (h:HG) (y:World) (gh':Option Nat) (cap':Nat) (H':Nat→HG):Prop where
  wi:WI y W psv lead gh' (n+4) cap' H'
  tch:Touch (fun k=>k=W∨gh=some k∨k=h.p∨h.rows k) x y
  gha:∀ k,gh'=some k→gh=some k∨x.heap.size≤k
  old:∀ j,j < n→H' j=H j
  new:∀ j,n≤j→j < n+4→∀ k i,(H' j).foot k i→k=h.p∨h.rows k∨x.heap.size≤k
theorem keep_any (x:World) (W:Nat) (psv:Value) (lead:Bool) (gh:Option Nat) (n cap:Nat) (H:Nat→HG) (h:HG) (hw:WI x W psv lead gh n cap H) (hc:Cur x h)
    (hap:∀ j,j < n→∀ k i,(H j).foot k i→k≠h.p∧¬ h.rows k) (hpW:h.p≠W) (hpg:gh≠some h.p) (hr:∀ k,h.rows k→k≠W∧gh≠some k)
    (hn:n≤99999990) (hb:h.bn≤99999990) (hl:h.ln≤99999990) (ho:h.on≤99999990) :
    Calls Tryz.prog 58 #[.pointer (some ⟨W,0,none⟩),.pointer (some ⟨h.p,0,none⟩)] x fun e y=>e=.returned (.tuple #[])∧∃ gh' cap' H',Kept x W psv lead gh n H h y gh' cap' H':=by
  have HWI:=hid hw
  have HC:=hid hc
  have HAP:=hid hap
  have HPG:=hid hpg
  have HR:=hid hr
  have HPW:=hid hpW
  have t0:Hid (Touch (fun k=>k=h.p) x (x.setCell ⟨h.p,3,none⟩ (.int .i64 ((n+1:Nat):Int)))):=(Touch.refl (fun k=>k=h.p) x).setCell (p:=⟨h.p,3,none⟩) (fun _=>rfl) _
  have C0:=hid (hc.setMark (n+1))
  have a1:x.cell? ⟨W,1,none⟩=_:=cell_of_heap hw.wb 1
  have a3:x.cell? ⟨h.p,3,none⟩=_:=cell_of_heap hc.hp 3
  have f3:x.frozen? ⟨h.p,3,none⟩=false:=frozen_of_heap hc.hp 3
  simp only [List.getElem?_toArray,List.getElem?_cons_zero,List.getElem?_cons_succ] at a1 a3
  unfold sl at a1
  clear hw hc hap hpg hr hpW
  have e1:((n:Int)+1)=((n+1:Nat):Int):=by omega
  have HE1:=hid e1
  clear e1
  obtain ⟨ip,hip,hip0,hip1,hip2⟩:=info_parts Tryz.info124
  go_enter Tryz.func58,Tryz.ntmps58
  go_wp2_with fail
  rw [HE1.out]
  refine (marks_any { h with m:=n+1 } _ C0.out (by dsimp only;omega) (by dsimp only;omega) (by dsimp only;omega) (by dsimp only;omega)).mono ?_
  rintro e x1 ⟨rfl,q,c1,i1,hq,t1⟩
  have HC1:=hid c1
  have HI1:=hid i1
  have HQ:=hid hq
  have T1:Hid (Touch h.rows _ x1):=t1
  clear c1 i1 hq t1
  have W1:=hid (HWI.out.marks (h:=h) HAP.out HPW.out HPG.out HR.out t0.out (by simp [World.setCell]) T1.out)
  clear a1 a3 f3
  have a1:x1.cell? ⟨W,1,none⟩=_:=cell_of_heap W1.out.wb 1
  simp only [List.getElem?_toArray,List.getElem?_cons_zero,List.getElem?_cons_succ] at a1
  unfold sl at a1
  have ow1:Hid (OwnRow (x1.alloc (.cells #[.pointer (some ⟨h.p,0,none⟩)] 124)) 124 1 gh n cap):=W1.out.ow.alloc _
  go_wp2_with (at_builtin;refine wpList_app _ rfl (.tmp 21) (.tmp 23) 79 rfl 124 ip (.pointer none) 1 8 Tryz.underlying79 hip hip0 hip1 hip2 rfl gh n cap (by rfl) ow1.out ⟨x1.heap.size,0,none⟩ 1 1 [.pointer (some ⟨h.p,0,none⟩)] rfl rfl ?c1 ?c2 (by omega) (by omega) (by omega) ?_)
  case c1 =>
    intro j u hj
    match j,hj with
    | 0,hj=>simp at hj;subst hj;simp [Addr.add]
  case c2=>intro u hu;simp at hu;subst hu;rfl
  intro k4 c4 y3 P
  have K0:=hid (KInv.first HWI.out HAP.out HPW.out HPG.out HR.out C0.out t0.out (by simp [World.setCell]) HC1.out HI1.out HQ.out T1.out ⟨by omega,by omega,by omega,by omega⟩ P rfl)
  have hWy:y3.heap[W]?=_:=P.touch.heapAt (o:=.cells #[psv,sl gh n cap,.bool lead] 81 (0,0)) (by rw [Below.heap_alloc _ _ _ (heap_lt W1.out.wb)];exact W1.out.wb) W1.out.hw
  have b1:y3.cell? ⟨W,1,none⟩=_:=cell_of_heap hWy 1
  have f1:y3.frozen? ⟨W,1,none⟩=false:=frozen_of_heap hWy 1
  simp only [List.getElem?_toArray,List.getElem?_cons_zero,List.getElem?_cons_succ] at b1
  clear hWy P
  go_wp2
  clear b1 f1 a1
  generalize y3.setCell ⟨W,1,none⟩ (.slice (some ⟨k4,0,none⟩) (n+1) c4)=y4 at K0 ⊢
  go_loopw [4,5] (fun v i yr=>∃ (r:Nat) (gh':Option Nat) (cap':Nat) (H':Nat→HG) (g:HG),r≤3∧i=.int .i64 r∧v=.pointer (some ⟨g.p,0,none⟩)∧KInv x W psv lead gh n H h r yr gh' cap' H' g) (fun _ i _=>3 - (intOf i).toNat)
  case atStart=>exact ⟨0,_,_,_,{ h with m:=n+1,q:=q },by omega,rfl,rfl,K0.out⟩
  case round =>
    obtain ⟨r,gh',cap',H',g,hr3,rfl,rfl,K⟩:=hrel
    have HK:=hid K
    by_cases hlt:r < 3
    · clear K
      have em:=HK.out.em
      have ebn:=HK.out.ebn
      have eln:=HK.out.eln
      have eon:=HK.out.eon
      have hm1:g.m≤100000000:=by omega
      have hm2:g.bn≤100000000:=by omega
      have hm3:g.ln≤100000000:=by omega
      have hm4:g.on≤100000000:=by omega
      clear em ebn eln eon
      go_wp2_with fail
      refine (longer_any g _ HK.out.cur HK.out.is HK.out.qok hm1 hm2 hm3 hm4).mono ?_
      rintro e y2 ⟨g2,rfl,L⟩
      have HL:=hid L
      clear L
      have W2:=hid (HK.out.longer HL.out)
      have a1:y2.cell? ⟨W,1,none⟩=_:=cell_of_heap W2.out.wb 1
      simp only [List.getElem?_toArray,List.getElem?_cons_zero,List.getElem?_cons_succ] at a1
      unfold sl at a1
      have ow2:Hid (OwnRow (y2.alloc (.cells #[.pointer (some ⟨g2.p,0,none⟩)] 124)) 124 1 gh' (n+1+r) cap'):=W2.out.ow.alloc _
      go_wp2_with (at_builtin;refine wpList_app _ rfl (.tmp 38) (.tmp 40) 79 rfl 124 ip (.pointer none) 1 8 Tryz.underlying79 hip hip0 hip1 hip2 rfl gh' (n+1+r) cap' (by rfl) ow2.out ⟨y2.heap.size,0,none⟩ 1 1 [.pointer (some ⟨g2.p,0,none⟩)] rfl rfl ?d1 ?d2 (by omega) (by omega) (by omega) ?_)
      case d1 =>
        intro j u hj
        match j,hj with
        | 0,hj=>simp at hj;subst hj;simp [Addr.add]
      case d2=>intro u hu;simp at hu;subst hu;rfl
      intro k5 c5 y5 P
      have K1:=hid (HK.out.step HL.out ⟨by omega,by omega,by omega,by omega⟩ P rfl)
      have hWy:y5.heap[W]?=_:=P.touch.heapAt (o:=.cells #[psv,sl gh' (n+1+r) cap',.bool lead] 81 (0,0)) (by rw [Below.heap_alloc _ _ _ (heap_lt W2.out.wb)];exact W2.out.wb) W2.out.hw
      have b1:y5.cell? ⟨W,1,none⟩=_:=cell_of_heap hWy 1
      have f1:y5.frozen? ⟨W,1,none⟩=false:=frozen_of_heap hWy 1
      simp only [List.getElem?_toArray,List.getElem?_cons_zero,List.getElem?_cons_succ] at b1
      clear hWy P
      go_wp2
      go_roundw
      case rel=>exact ⟨r+1,_,_,_,g2,by omega,by go_num,rfl,K1.out⟩
      case measure=>simp [intOf];omega
    · have e3:r=3:=by omega
      subst e3
      go_wp2
      go_end0
      exact ⟨rfl,gh',cap',H',K.wi,K.tch,K.gha,K.agree,K.new⟩
theorem run_cpy {P:Program} (w:World) (dT sT ty e:TypeId) (i:TypeInfo) (hu:P.underlying dT=some (.slice e)) (hi:P.info? e=some i) (g dLen dCap:Nat) (cur:Array Value) (t:TypeId) (hg:w.heap[g]?=some (.cells cur t (0,0)))
    (x:Value) (n:Nat) (news:List Value) (hs:Src P i.size sT x n news w) (hn:n≤dLen) (hfit:news.length≤cur.size) :
    (Builtin.copy_ #[dT,sT] ty #[.slice (some ⟨g,0,none⟩) dLen dCap,x]).run P w=.ok (goInt n) (w.setRow g (news++cur.toList.drop news.length).toArray):=by
  have hst:=run_storeCells_at P g 0 t news 0 cur w hg (by simpa using hfit) hs.one
  simp only [Nat.add_zero,Nat.zero_add,List.take_zero,List.nil_append] at hst
  simp [Builtin.copy_,run_underlying hu,sizeOf,typeInfo,hi,hs.len,Nat.min_eq_left hn,hs.cells,hst]
structure Lent (w:World) (g:Nat) (l:List UInt8):Prop where
  own:OwnRow w 5 1 (some g) (l.length+8) (l.length+8)
  at_:∀ j,(h:j < l.length)→w.cell? ⟨g,j,none⟩=some (.int .u8 l[j].toNat)
  sp:∀ j,l.length≤j→j < l.length+8→w.cell? ⟨g,j,none⟩=some (.int .u8 201)
theorem Lent.touch {T:Nat→Prop} {w w':World} {g:Nat} {l:List UInt8} (h:Lent w g l) (ht:Touch T w w') (hn:¬ T g):Lent w' g l :=
  ⟨h.own.touch ht (fun k e=>by cases e;exact hn),fun j hj=>ht.cell (h.at_ j hj) hn,fun j h1 h2=>ht.cell (h.sp j h1 h2) hn⟩
theorem Lent.below {w w':World} {g:Nat} {l:List UInt8} (h:Lent w g l) (hb:Below w.heap.size w w'):Lent w' g l:=h.touch (T:=fun _=>False) (Touch.of_belowAll hb _) (fun e=>e)
theorem lent_any (l:List UInt8) (w:World) (hn:l.length≤10000000) :
    Calls Tryz.prog 62 #[.string ⟨l.toArray⟩] w fun e w'=>e=.returned (.slice (some ⟨w.heap.size,0,none⟩) (l.length+8) (l.length+8))∧Lent w' w.heap.size l∧Below w.heap.size w w':=by
  obtain ⟨ib,hib,hib0,hib1,hib2⟩:=info_parts Tryz.info5
  have hmk:=fun (w:World)=>run_make (P:=Tryz.prog) w 31 5 ib (.int .u8 0) Tryz.underlying31 hib hib0 .i64 .i64 ((l.length:Int)+8) ((l.length:Int)+8) (by omega) (by omega) (by rw [hib2];omega) (by omega)
  simp only [hib1,show ((l.length:Int)+8).toNat=l.length+8 from by omega,Nat.mul_one] at hmk
  have hg:(w.alloc (.cells (madeCells #[.int .u8 0] (l.length+8)) 5)).heap[w.heap.size]?=some (.cells (madeCells #[.int .u8 0] (l.length+8)) 5 (0,0)):=heap_alloc_new w _
  have hsz:(madeCells #[.int .u8 0] (l.length+8)).size=l.length+8:=size_madeCells _ _
  have hcp:=fun ty=>run_cpy (P:=Tryz.prog) (w.alloc (.cells (madeCells #[.int .u8 0] (l.length+8)) 5)) 31 9 ty 5 ib Tryz.underlying31 hib w.heap.size (l.length+8) (l.length+8) _ 5 hg (.string ⟨l.toArray⟩) _ _ (by rw [hib1];exact Src.ofString _ Tryz.underlying9 ⟨l.toArray⟩) (by show l.length≤_;omega) (by rw [byteCells_length,hsz];show l.length≤_;omega)
  have hss:(⟨l.toArray⟩:ByteArray).size=l.length:=rfl
  rw [hss] at hcp
  have HG:=hid hg
  have HSZ:=hid hsz
  clear hg hsz hss
  go_enter Tryz.func62,Tryz.ntmps62
  have HC:Hid (∀ W:World,W=(w.alloc (.cells (madeCells #[.int .u8 0] (l.length+8)) 5)).setRow w.heap.size (byteCells ⟨l.toArray⟩++List.drop (byteCells ⟨l.toArray⟩).length (madeCells #[.int .u8 0] (l.length+8)).toList).toArray →
      OwnRow W 5 1 (some w.heap.size) (l.length+8) (l.length+8)∧(∀ j,(h:j < l.length)→W.cell? ⟨w.heap.size,j,none⟩=some (.int .u8 l[j].toNat))∧Below w.heap.size w W):=fun W hW=>by
    have hbl:(byteCells ⟨l.toArray⟩).length=l.length:=byteCells_length _
    have hr:=setRow_heap _ w.heap.size _ (byteCells ⟨l.toArray⟩++List.drop (byteCells ⟨l.toArray⟩).length (madeCells #[.int .u8 0] (l.length+8)).toList).toArray 5 (0,0) HG.out
    rw [← hW] at hr
    have hsz:=HSZ.out
    refine ⟨.inr ⟨_,_,rfl,hr,?_,Nat.le_refl _,by simp only [maxLen];omega⟩,fun j hj=>?_,?_⟩
    · simp only [List.size_toArray,List.length_append,List.length_drop,Array.length_toList,hbl,hsz];omega
    · rw [cell_of_heap hr]
      simp only [List.getElem?_toArray]
      rw [List.getElem?_append_left (by omega)]
      simp [byteCells,List.getElem?_eq_getElem hj]
    · rw [hW];exact below_setRow ((Below.refl _ _).alloc (Nat.le_refl _) _) (Nat.le_refl _) _
  go_wp2
  obtain ⟨W1,hW1⟩:∃ W1,W1=(w.alloc (.cells (madeCells #[.int .u8 0] (l.length+8)) 5)).setRow w.heap.size (byteCells ⟨l.toArray⟩++List.drop (byteCells ⟨l.toArray⟩).length (madeCells #[.int .u8 0] (l.length+8)).toList).toArray:=⟨_,rfl⟩
  have HF:=hid (HC.out W1 hW1)
  rw [← hW1]
  clear hW1 HC HG HSZ hcp hmk
  go_loopw [4] (fun i wr=>∃ k:Nat,l.length≤k∧k≤l.length+8∧i=.int .i64 k∧Hid (OwnRow wr 5 1 (some w.heap.size) (l.length+8) (l.length+8)∧(∀ j,(h:j < l.length)→wr.cell? ⟨w.heap.size,j,none⟩=some (.int .u8 l[j].toNat)) ∧
      (∀ j,l.length≤j→j < k→wr.cell? ⟨w.heap.size,j,none⟩=some (.int .u8 201))∧Below w.heap.size w wr)) (fun i _=>l.length+8 - (intOf i).toNat)
  case atStart=>exact ⟨l.length,Nat.le_refl _,by omega,rfl,HF.out.1,HF.out.2.1,fun j h1 h2=>by omega,HF.out.2.2⟩
  case round =>
    obtain ⟨k,hk1,hk2,rfl,HI⟩:=hrel
    by_cases hlt:k < l.length+8
    · obtain ⟨v0,dg,df⟩:=ownRow_cell (j:=k) HI.out.1 (by omega)
      go_wp2
      go_roundw
      case rel =>
        obtain ⟨a1,a2,a3,a4⟩:=HI.out
        refine ⟨k+1,by omega,by omega,by go_num,a1.set _ _,fun j hj=>?_,fun j h1 h2=>?_,a4.setCell (Nat.le_refl _) _⟩
        · rw [cell_set_ne _ (by omega)];exact a2 j hj
        · by_cases e:j=k
          · subst e;exact cell_set_same _ dg
          · rw [cell_set_ne _ (by omega)];exact a3 j h1 (by omega)
      case measure=>simp [intOf];omega
    · go_wp2
      go_ret
      obtain ⟨a1,a2,a3,a4⟩:=HI.out
      exact ⟨rfl,⟨a1,a2,fun j h1 h2=>a3 j h1 (by omega)⟩,a4⟩
end
section
open Go.RowKit
def Free (W:Nat) (gh:Option Nat) (n:Nat) (H:Nat→HG) (k:Nat):Prop:=k≠W∧gh≠some k∧∀ j,j < n→∀ i,¬ (H j).foot k i
theorem WI.free_new {x:World} {W:Nat} {psv:Value} {lead:Bool} {gh:Option Nat} {n cap:Nat} {H:Nat→HG} (h:WI x W psv lead gh n cap H) {k:Nat} (hk:x.heap.size≤k):Free W gh n H k :=
  ⟨fun e=>by have:=heap_lt h.wb;omega,fun e=>by have:=h.ow.lt e;omega,fun j hj i hf=>by have:=(h.is j hj).foot_lt hf;omega⟩
theorem WI.alloc {x:World} {W:Nat} {psv:Value} {lead:Bool} {gh:Option Nat} {n cap:Nat} {H:Nat→HG} (h:WI x W psv lead gh n cap H) (o:Obj):WI (x.alloc o) W psv lead gh n cap H :=
  h.below ((Below.refl _ _).alloc (Nat.le_refl _) _)
structure KeptH (y:World) (W:Nat) (psv:Value) (lead:Bool) (gh:Option Nat) (n:Nat) (H:Nat→HG) (R:Nat→Prop) (z:World):Prop where
  ex:∃ gh' cap' H',WI z W psv lead gh' (n+4) cap' H'∧(∀ k,gh'=some k→gh=some k∨y.heap.size≤k)∧(∀ k,k < y.heap.size→Free W gh n H k→¬ R k→Free W gh' (n+4) H' k)
  tch:Touch (fun k=>k=W∨gh=some k∨R k) y z
theorem keep_hold (y:World) (W:Nat) (psv:Value) (lead:Bool) (gh:Option Nat) (n cap:Nat) (H:Nat→HG) (hw:WI y W psv lead gh n cap H) (b l o:Option Nat) (bn bc ln lc on oc:Nat)
    (rb:OwnRow y 5 1 b bn bc) (rl:OwnRow y 27 3 l ln lc) (ro:OwnRow y 71 3 o on oc)
    (bl:∀ g,b=some g→l≠some g) (bo:∀ g,b=some g→o≠some g) (lo:∀ g,l=some g→o≠some g)
    (fr:∀ k,(b=some k∨l=some k∨o=some k)→Free W gh n H k) (hn:n≤99999990) (hb:bn≤99999990) (hl:ln≤99999990) (ho:on≤99999990) :
    Calls Tryz.prog 58 #[.pointer (some ⟨W,0,none⟩),.pointer (some ⟨y.heap.size,0,none⟩)] (y.alloc (.cells #[sl b bn bc,sl l ln lc,sl o on oc,.int .i64 0] 126)) fun e z=>e=.returned (.tuple #[]) ∧
      KeptH y W psv lead gh n H (fun k=>b=some k∨l=some k∨o=some k) z:=by
  have hlt:∀ k,(b=some k∨l=some k∨o=some k)→k < y.heap.size:=fun k e=>by
    rcases e with e | e | e
    · exact rb.lt e
    · exact rl.lt e
    · exact ro.lt e
  have hc:Cur (y.alloc (.cells #[sl b bn bc,sl l ln lc,sl o on oc,.int .i64 0] 126)) ⟨y.heap.size,b,bn,bc,l,ln,lc,o,on,oc,fun _=>0,0⟩ :=
    ⟨heap_alloc_new y _,rb.alloc _,rl.alloc _,ro.alloc _,fun e=>by have:=hlt _ (.inl e);dsimp only at this;omega,fun e=>by have:=hlt _ (.inr (.inl e));dsimp only at this;omega,fun e=>by have:=hlt _ (.inr (.inr e));dsimp only at this;omega,bl,bo,lo⟩
  have hWl:W < y.heap.size:=heap_lt hw.wb
  refine (keep_any _ W psv lead gh n cap H ⟨y.heap.size,b,bn,bc,l,ln,lc,o,on,oc,fun _=>0,0⟩ (hw.alloc _) hc (fun j hj k i hf=>⟨fun e=>?_,fun e=>(fr k e).2.2 j hj i hf⟩) (by dsimp only;omega) (fun e=>?_) (fun k e=>⟨(fr k e).1,(fr k e).2.1⟩) hn hb hl ho).mono ?_
  · have:=(hw.is j hj).foot_lt hf
    dsimp only at e
    omega
  · have:=hw.ow.lt e
    dsimp only at this
    omega
  · rintro e z ⟨rfl,gh',cap',H',K⟩
    have ts:=K.tch.size
    rw [World.size_alloc] at ts
    refine ⟨rfl,⟨gh',cap',H',K.wi,fun k e=>?_,fun k hk hf hr=>?_⟩,?_⟩
    · rcases K.gha k e with e | e
      · exact .inl e
      · rw [World.size_alloc] at e;exact .inr (by omega)
    · refine ⟨hf.1,fun e=>?_,fun j hj i hft=>?_⟩
      · rcases K.gha k e with e | e
        · exact hf.2.1 e
        · rw [World.size_alloc] at e;omega
      · by_cases hjn:j < n
        · rw [K.old j hjn] at hft;exact hf.2.2 j hjn i hft
        · rcases K.new j (by omega) hj k i hft with e | e | e
          · dsimp only at e;omega
          · exact hr e
          · rw [World.size_alloc] at e;omega
    · refine ((Touch.refl (fun k=>k=W∨gh=some k∨(b=some k∨l=some k∨o=some k)) y).alloc _).trans K.tch (fun i hi e=>?_)
      rcases e with e | e | e | e
      · exact .inl e
      · exact .inr (.inl e)
      · dsimp only at e;omega
      · exact .inr (.inr e)
end
section
open Go.RowKit
attribute [local go_sem ↓] Go.wp_at_zero Go.wp_at_succ
theorem still_any (l:List UInt8) (g c:Nat) (w:World) (hn:l.length≤10000000) (hl:Lent w g l) :
    Calls Tryz.prog 64 #[.slice (some ⟨g,0,none⟩) (l.length+8) c,.string ⟨l.toArray⟩] w fun e w'=>e=.returned (.bool true)∧Below w.heap.size w w':=by
  have HL:=hid hl
  clear hl
  go_enter Tryz.func64,Tryz.ntmps64
  go_wp2
  go_loopw [5] (fun i wr=>∃ (k m:Nat),k≤l.length+8∧i=.int .i64 k∧wr=w.drewN m) (fun i _=>l.length+8 - (intOf i).toNat)
  case atStart=>exact ⟨0,0,Nat.zero_le _,rfl,rfl⟩
  case round =>
    obtain ⟨k,m,hk,rfl,rfl⟩:=hrel
    by_cases hlt:k < l.length+8
    · have b1:(0:Int)≤(k:Int):=by omega
      have b2:(k:Int) < (l.length:Int)+8:=by omega
      by_cases hl:k < l.length
      · have h0:=HL.out.at_ k hl
        have b3:(k:Int) < (l.length:Int):=by omega
        have hne:((l[k].toNat:Int) != (l[k].toNat:Int))=false:=by simp
        have hne2:∀ hh,((l[k].toNat:Int) != (((⟨l.toArray⟩:ByteArray)[k]'hh).toNat:Int))=false:=fun hh=>hne
        have b5:decide ((k:Int) < (l.length:Int))=true:=by simp;omega
        have b6:decide ((l.length:Int)≤(k:Int))=false:=by simp;omega
        have b7:decide (l.length≤k)=false:=by simp;omega
        go_wp2
        go_quiet (fail)
        go_wp2
        go_roundw
        case rel=>exact ⟨k+1,_,by omega,by go_num,rfl⟩
        case measure=>simp [intOf];omega
      · have h0:=HL.out.sp k (by omega) hlt
        have b3:decide ((k:Int) < (l.length:Int))=false:=by simp;omega
        have b4:decide ((l.length:Int)≤(k:Int))=true:=by simp;omega
        have b5:decide (k < l.length)=false:=by simp;omega
        have b6:decide (l.length≤k)=true:=by simp;omega
        have b7:((201:Int) != 201)=false:=rfl
        go_wp2
        go_quiet (fail)
        go_wp2
        go_roundw
        case rel=>exact ⟨k+1,_,by omega,by go_num,rfl⟩
        case measure=>simp [intOf];omega
    · go_wp2
      go_ret
      exact ⟨rfl,below_drewN (Below.refl _ _) _⟩
theorem sameLines_any (a b:Option Addr) (c d:Nat) (ls:List Ln) (w:World) (hn:ls.length≤100000000) (ha:LinesAt w a ls) (hb:LinesAt w b ls) :
    Calls Tryz.prog 56 #[sla a ls.length c,sla b ls.length d] w fun e w'=>e=.returned (.bool true)∧Below w.heap.size w w':=by
  have HA:=hid ha
  have HB:=hid hb
  clear ha hb
  unfold sla
  have hz:((ls.length:Int) != (ls.length:Int))=false:=by simp
  go_enter Tryz.func56,Tryz.ntmps56
  go_wp2
  go_loopw [5] (fun i wr=>∃ (k m:Nat),k≤ls.length∧i=.int .i64 k∧wr=w.drewN m) (fun i _=>ls.length - (intOf i).toNat)
  case atStart=>exact ⟨0,0,Nat.zero_le _,rfl,rfl⟩
  case round =>
    obtain ⟨k,m,hk,rfl,rfl⟩:=hrel
    by_cases hlt:k < ls.length
    · have b1:(0:Int)≤(k:Int):=by omega
      have b2:(k:Int) < (ls.length:Int):=by omega
      obtain ⟨g,o,rfl,h0,h1,h2⟩:=HA.out k hlt
      obtain ⟨g',o',rfl,h0',h1',h2'⟩:=HB.out k hlt
      generalize ls[k]=x at h0 h1 h2 h0' h1' h2'
      have hx:(x.s == x.s)=true:=by simp
      go_wp2
      go_quiet (fail)
      go_wp2
      go_roundw
      case rel=>exact ⟨k+1,_,by omega,by go_num,rfl⟩
      case measure=>simp [intOf];omega
    · go_wp2
      go_ret
      exact ⟨rfl,below_drewN (Below.refl _ _) _⟩
theorem frame_any (f:Fr) (a:Option Addr) (cap:Nat) (w:World) (hl:LinesAt w a f.lines) (hn:f.lines.length≤100000000) (hcap:f.lines.length≤cap) :
    Calls Tryz.prog 29 #[f.val a cap] w fun e w'=>e=.returned (.string ⟨(packS f).toArray⟩)∧Below w.heap.size w w':=by
  have HP:=hid (fun w1 (h:Below w.heap.size w w1)=>refPack_any f a cap w1 (hl.below h) hn hcap)
  clear hl
  unfold Fr.val sla at HP ⊢
  go_enter Tryz.func29,Tryz.ntmps29
  go_wp2_with fail
  refine (HP.out _ ((Below.refl _ _).alloc (Nat.le_refl _) _)).mono ?_
  rintro e w1 ⟨rfl,hb1⟩
  go_wp2
  go_ret
  exact ⟨rfl,((Below.refl _ _).alloc (Nat.le_refl _) _).trans (hb1.mono (by simp))⟩
end
end Go.Proofs.YtolififimldmlaaGreat
