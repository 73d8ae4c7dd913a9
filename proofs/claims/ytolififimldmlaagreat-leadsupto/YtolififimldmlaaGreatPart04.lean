import Derived.Test.YtolififimldmlaaGreatPart03
set_option linter.unusedVariables false
set_option linter.unusedSimpArgs false
set_option maxRecDepth 100000
set_option maxHeartbeats 16000000
namespace Go.Proofs.YtolififimldmlaaGreat
section
open Go.RowKit
structure AppPost (w w':World) (e:TypeId) (size:Nat) (b:Option Nat) (n m:Nat) (news:List Value) (g c':Nat):Prop where
  own:OwnRow w' e size (some g) (n+m) c'
  new:∀ j,j < m * size→w'.cell? ⟨g,n * size+j,none⟩=news[j]?
  old:∀ j,j < n * size→∀ k,b=some k→w'.cell? ⟨g,j,none⟩=w.cell? ⟨k,j,none⟩
  keep:∀ k j,k < w.heap.size→¬ (b=some k∧n * size≤j)→w'.cell? ⟨k,j,none⟩=w.cell? ⟨k,j,none⟩
  touch:Touch (fun k=>b=some k) w w'
  lies:b=some g∨w.heap.size≤g
section
variable {P:Program} (w:World)
theorem addr_add (g o j:Nat):(⟨g,o,none⟩:Addr).add j=⟨g,o+j,none⟩:=by unfold Addr.add;split <;> simp_all
theorem run_app (t ty:TypeId) (e:TypeId) (i:TypeInfo) (z:Value) (size bytes:Nat) (ht:P.underlying t=some (.slice e)) (hi:P.info? e=some i) (hz:i.zero=some z)
    (hsize:i.size=size) (hby:i.bytes=bytes) (hzs:z.cells.size=size)
    (b:Option Nat) (n c:Nat) (hown:OwnRow w e size b n c)
    (ad:Addr) (m cc:Nat) (news:List Value) (hl:news.length=m * size) (hnews:∀ j u,news[j]?=some u→w.cell? (ad.add j)=some u) (h1:∀ u ∈ news,u.oneCell'=true)
    (hm:0 < m) (hbytes:(n+m) * bytes≤140737488355328) (h63:n+m≤140737488355328) :
    ∃ g c' w',(Builtin.append_ #[t,t] ty #[sl b n c,.slice (some ad) m cc]).run P w=.ok (.slice (some ⟨g,0,none⟩) (n+m) c') w'∧AppPost w w' e size b n m news g c':=by
  subst hsize
  subst hby
  have hmx:n+m≤maxLen:=by simp only [maxLen];omega
  have grown:∀ (old:Nat) (xs:List Value),xs.length=n * i.size→(∀ j,j < n * i.size→∀ k,b=some k→xs[j]?=w.cell? ⟨k,j,none⟩)→old < n+m →
      AppPost w (w.drew.alloc (.cells (xs.toArray++news.toArray++Builtin.zeroCells z.cells (grownCap w (n+m) old e - (n+m))) e)) e i.size b n m news w.heap.size (grownCap w (n+m) old e):=by
    intro old xs hxl hxs ho
    have hge:=grownCap_ge w (n+m) old e
    have hcm:grownCap w (n+m) old e≤maxLen:=grownCap_le_maxLen w (n+m) old e hmx
    have hnew:(w.drew.alloc (.cells (xs.toArray++news.toArray++Builtin.zeroCells z.cells (grownCap w (n+m) old e - (n+m))) e)).heap[w.heap.size]?=some (.cells (xs.toArray++news.toArray++Builtin.zeroCells z.cells (grownCap w (n+m) old e - (n+m))) e (0,0)):=heap_alloc_new w.drew _
    refine ⟨.inr ⟨_,_,rfl,hnew,?_,hge,hcm⟩,fun j hj=>?_,fun j hj k hk=>?_,fun k j hk _=>?_,((Touch.refl _ w).drew).alloc _,.inr (Nat.le_refl _)⟩
    · simp only [Array.size_append,List.size_toArray,size_zeroCells,hzs,hxl,hl,← Nat.add_mul]
      congr 1
      omega
    · rw [cell_of_heap hnew,Array.getElem?_append_left (by simp;omega),Array.getElem?_append_right (by simp;omega)]
      simp [hxl]
    · rw [cell_of_heap hnew,Array.getElem?_append_left (by simp;omega),Array.getElem?_append_left (by simp;omega)]
      simpa using hxs j hj k hk
    · exact World.cell?_alloc_past (w:=w.drew) _ _ _ hk
  rcases hown with ⟨rfl,rfl,rfl⟩ | ⟨g,cur,rfl,hg,hcs,hnc,hcm⟩
  · have hr:=run_append_nil (P:=P) w t ty e i z ht hi hz ad m cc news hl hnews (by omega) (by omega) (by simp only [Nat.zero_add] at hbytes;omega)
    have hgr:=grown 0 [] (by simp) (fun j hj=>by omega) (by omega)
    simp only [Nat.zero_add,Array.empty_append] at hgr hr ⊢
    exact ⟨_,_,_,hr,hgr⟩
  · by_cases hroom:n+m≤c
    · have hns:n * i.size+news.length=(n+m) * i.size:=by rw [hl,← Nat.add_mul]
      have hfit:n * i.size+news.length≤cur.size:=by rw [hns,hcs];exact Nat.mul_le_mul_right _ hroom
      have hr:=run_append_room (P:=P) w t ty e i ht hi g n c cur hg ad m cc news hl hnews h1 hroom hfit
      have hsr:=setRow_heap w g cur (cur.toList.take (n * i.size)++news++cur.toList.drop (n * i.size+news.length)).toArray e (0,0) hg
      have htl:(cur.toList.take (n * i.size)).length=n * i.size:=by rw [List.length_take,Array.length_toList];omega
      have hold:∀ j,j < n * i.size→(cur.toList.take (n * i.size)++news++cur.toList.drop (n * i.size+news.length)).toArray[j]?=cur[j]?:=fun j hj=>by
        simp only [List.getElem?_toArray]
        rw [List.getElem?_append_left (by simp only [List.length_append,htl];omega),List.getElem?_append_left (by omega),List.getElem?_take_of_lt hj,Array.getElem?_toList]
      refine ⟨g,c,_,hr,⟨.inr ⟨g,_,rfl,hsr,?_,hroom,hcm⟩,fun j hj=>?_,fun j hj k hk=>?_,fun k j hk hn=>?_,⟨rfl,rfl,rfl,by simp [World.setRow],fun k _ hk=>setRow_other w g k _ (fun e=>hk (by rw [e]))⟩,.inl rfl⟩⟩
      · simp only [List.size_toArray,List.length_append,List.length_drop,htl,Array.length_toList];omega
      · rw [cell_of_heap hsr]
        simp only [List.getElem?_toArray]
        rw [List.getElem?_append_left (by simp only [List.length_append,htl];omega),List.getElem?_append_right (by omega),htl]
        congr 1;omega
      · cases hk
        rw [cell_of_heap hsr,cell_of_heap hg];exact hold j hj
      · by_cases hkg:k=g
        · subst hkg
          rw [cell_of_heap hsr,cell_of_heap hg];exact hold j (by rcases Nat.lt_or_ge j (n * i.size) with h | h;exact h;exact absurd ⟨rfl,h⟩ hn)
        · exact World.cell?_of_block (setRow_other w g k _ hkg)
    · have hxl:(cur.toList.take (n * i.size)).length=n * i.size:=by
        rw [List.length_take,Array.length_toList,hcs];have:=Nat.mul_le_mul_right i.size hnc;omega
      have hxs:∀ j,j < n * i.size→(cur.toList.take (n * i.size))[j]?=w.cell? ⟨g,j,none⟩:=fun j hj=>by
        rw [cell_of_heap hg,List.getElem?_take_of_lt hj,Array.getElem?_toList]
      have holds:∀ j u,(cur.toList.take (n * i.size))[j]?=some u→w.cell? ((⟨g,0,none⟩:Addr).add j)=some u:=fun j u hu=>by
        have hj:j < n * i.size:=by
          rcases Nat.lt_or_ge j (n * i.size) with h | h
          · exact h
          · rw [List.getElem?_eq_none (by omega)] at hu;cases hu
        rw [addr_add,Nat.zero_add,← hxs j hj];exact hu
      have hr:=run_append_grow (P:=P) w t ty e i z ht hi hz ⟨g,0,none⟩ n c _ hxl holds ad m cc news hl hnews (by omega) (by omega) (growslice_fits (by omega) hbytes)
      exact ⟨_,_,_,hr,grown c _ hxl (fun j hj k hk=>by cases hk;exact hxs j hj) (by omega)⟩
theorem wp_app {o:Oper} {a:Act} {K:Act→World→Prop} {Q:Exit→Act→World→Prop} (s x:Operand) (t:TypeId)
    (ho:o.op=.call { callee:=.builtin .append,args:=#[s,x],argTypes:=#[t,t] })
    (e:TypeId) (i:TypeInfo) (z:Value) (size bytes:Nat) (ht:P.underlying t=some (.slice e)) (hi:P.info? e=some i) (hz:i.zero=some z)
    (hsize:i.size=size) (hby:i.bytes=bytes) (hzs:z.cells.size=size)
    (b:Option Nat) (n c:Nat) (hs:a.eval s=sl b n c) (hown:OwnRow w e size b n c)
    (ad:Addr) (m cc:Nat) (news:List Value) (hx:a.eval x=.slice (some ad) m cc) (hl:news.length=m * size) (hnews:∀ j u,news[j]?=some u→w.cell? (ad.add j)=some u) (h1:∀ u ∈ news,u.oneCell'=true)
    (hm:0 < m) (hbytes:(n+m) * bytes≤140737488355328) (h63:n+m≤140737488355328)
    (h:∀ g c' w',AppPost w w' e size b n m news g c'→K (a.put o.dst (.slice (some ⟨g,0,none⟩) (n+m) c')) w'):o.wp P a w K Q:=by
  obtain ⟨g,c',w',hr,h2⟩:=run_app (P:=P) w t o.type e i z size bytes ht hi hz hsize hby hzs b n c hown ad m cc news hl hnews h1 hm hbytes h63
  unfold Oper.wp execOp
  simp only [ho,resolve,invoke,builtin,Sem.run_bind,Sem.run_pure,Result.andThen_ok,List.map_toArray,List.map_cons,List.map_nil,hs,hx,hr]
  exact h g c' w' h2
theorem wpList_app {ops:Array Oper} {rest:List Oper} {o:Oper} {a:Act} {Q:Exit→Act→World→Prop} (hgd:o.guard=none) (s x:Operand) (t:TypeId)
    (ho:o.op=.call { callee:=.builtin .append,args:=#[s,x],argTypes:=#[t,t] })
    (e:TypeId) (i:TypeInfo) (z:Value) (size bytes:Nat) (ht:P.underlying t=some (.slice e)) (hi:P.info? e=some i) (hz:i.zero=some z)
    (hsize:i.size=size) (hby:i.bytes=bytes) (hzs:z.cells.size=size)
    (b:Option Nat) (n c:Nat) (hs:a.eval s=sl b n c) (hown:OwnRow w e size b n c)
    (ad:Addr) (m cc:Nat) (news:List Value) (hx:a.eval x=.slice (some ad) m cc) (hl:news.length=m * size) (hnews:∀ j u,news[j]?=some u→w.cell? (ad.add j)=some u) (h1:∀ u ∈ news,u.oneCell'=true)
    (hm:0 < m) (hbytes:(n+m) * bytes≤140737488355328) (h63:n+m≤140737488355328)
    (h:∀ g c' w',AppPost w w' e size b n m news g c'→wpList P ops Q rest (a.put o.dst (.slice (some ⟨g,0,none⟩) (n+m) c')) w'):wpList P ops Q (o :: rest) a w :=
  wpList_plain hgd fun _ hK=>wp_app w s x t ho e i z size bytes ht hi hz hsize hby hzs b n c hs hown ad m cc news hx hl hnews h1 hm hbytes h63 fun g c' w' h2=>hK _ _ (h g c' w' h2)
theorem step_app {ops:Array Oper} {o:Oper} {a:Act} {K:Act→World→Prop} {Q:Exit→Act→World→Prop} {E:Prop} (hgd:o.guard=none) (s x:Operand) (t:TypeId)
    (ho:o.op=.call { callee:=.builtin .append,args:=#[s,x],argTypes:=#[t,t] })
    (e:TypeId) (i:TypeInfo) (z:Value) (size bytes:Nat) (ht:P.underlying t=some (.slice e)) (hi:P.info? e=some i) (hz:i.zero=some z)
    (hsize:i.size=size) (hby:i.bytes=bytes) (hzs:z.cells.size=size)
    (b:Option Nat) (n c:Nat) (hs:a.eval s=sl b n c) (hown:OwnRow w e size b n c)
    (ad:Addr) (m cc:Nat) (news:List Value) (hx:a.eval x=.slice (some ad) m cc) (hl:news.length=m * size) (hnews:∀ j u,news[j]?=some u→w.cell? (ad.add j)=some u) (h1:∀ u ∈ news,u.oneCell'=true)
    (hm:0 < m) (hbytes:(n+m) * bytes≤140737488355328) (h63:n+m≤140737488355328)
    (h:∀ g c' w',AppPost w w' e size b n m news g c'→K (a.put o.dst (.slice (some ⟨g,0,none⟩) (n+m) c')) w') :
    if Region.wanted o (yielded ops a.tmps)=true then Oper.wp P o a w K Q else E:=by
  have hw:Region.wanted o (yielded ops a.tmps)=true:=by simp [Region.wanted,hgd]
  rw [if_pos hw]
  exact wp_app w s x t ho e i z size bytes ht hi hz hsize hby hzs b n c hs hown ad m cc news hx hl hnews h1 hm hbytes h63 h
end
end
section
open Go.RowKit
attribute [local go_sem ↓] Go.wp_at_zero Go.wp_at_succ
theorem Tryz.info5:(Tryz.prog.info? 5).map (fun i=>(i.zero,i.size,i.bytes))=some (some (.int .u8 0),1,1):=by kernel_rfl
theorem Tryz.info27:(Tryz.prog.info? 27).map (fun i=>(i.zero,i.size,i.bytes))=some (some (.agg #[.int .i64 0,.int .i64 0,.string ⟨#[]⟩]),3,32):=by kernel_rfl
theorem Tryz.info71:(Tryz.prog.info? 71).map (fun i=>(i.zero,i.size,i.bytes))=some (some (.agg #[.bool false,.int .i64 0,.slice none 0 0]),3,40):=by kernel_rfl
theorem Tryz.info124:(Tryz.prog.info? 124).map (fun i=>(i.zero,i.size,i.bytes))=some (some (.pointer none),1,8):=by kernel_rfl
structure Stage (w:World) (h:HG) (x:World) (v0 v1 v2:Value):Prop where
  keep:∀ k j,k < w.heap.size→¬ (h.b=some k∧h.bn≤j)→¬ (h.l=some k∧h.ln * 3≤j)→¬ (h.o=some k∧h.on * 3≤j)→x.cell? ⟨k,j,none⟩=w.cell? ⟨k,j,none⟩
  touch:Touch h.rows w x
  blk:x.heap[w.heap.size]?=some (.cells #[v0,v1,v2,.int .i64 h.m] 126 (0,0))
theorem Stage.start (w:World) (h:HG):Stage w h (w.alloc (.cells #[.slice none 0 0,.slice none 0 0,.slice none 0 0,.int .i64 h.m] 126)) (.slice none 0 0) (.slice none 0 0) (.slice none 0 0) :=
  ⟨fun k j hk _ _ _=>World.cell?_alloc_past _ _ _ hk,(Touch.refl _ w).alloc _,heap_alloc_new w _⟩
section
variable {w x x':World} {h:HG} {v0 v1 v2:Value}
theorem Stage.lt (s:Stage w h x v0 v1 v2):w.heap.size < x.heap.size:=heap_lt s.blk
theorem Stage.alloc (s:Stage w h x v0 v1 v2) (o:Obj):Stage w h (x.alloc o) v0 v1 v2 :=
  ⟨fun k j hk a b c=>(World.cell?_alloc_past _ _ _ (by have:=s.lt;omega)).trans (s.keep k j hk a b c),s.touch.alloc _,by rw [Below.heap_alloc _ _ _ s.lt];exact s.blk⟩
theorem Stage.drew (s:Stage w h x v0 v1 v2):Stage w h x.drew v0 v1 v2:=⟨s.keep,s.touch.drew,s.blk⟩
theorem Stage.app (s:Stage w h x v0 v1 v2) {e:TypeId} {size:Nat} {r:Option Nat} {n m g c:Nat} {news:List Value} (a:AppPost x x' e size r n m news g c)
    (hr:∀ k,r=some k→k < w.heap.size∧h.rows k∧∀ j,n * size≤j→(h.b=some k∧h.bn≤j)∨(h.l=some k∧h.ln * 3≤j)∨(h.o=some k∧h.on * 3≤j)):Stage w h x' v0 v1 v2:=by
  refine ⟨fun k j hk n1 n2 n3=>?_,s.touch.trans a.touch (fun i _ e=>(hr i e).2.1),a.touch.heapAt s.blk (fun e=>by have:=(hr _ e).1;omega)⟩
  rw [a.keep k j (by have:=s.lt;omega) (fun e=>(hr k e.1).2.2 j e.2 |>.elim n1 (fun q=>q.elim n2 n3))]
  exact s.keep k j hk n1 n2 n3
theorem Stage.set (s:Stage w h x v0 v1 v2) (i:Nat) (v:Value):Stage w h (x.setCell ⟨w.heap.size,i,none⟩ v) (if i=0 then v else v0) (if i=1 then v else v1) (if i=2 then v else v2)∨2 < i:=by
  rcases Nat.lt_or_ge 2 i with q | q
  · exact .inr q
  refine .inl ⟨fun k j hk a b c=>?_,s.touch.setCell (fun e=>absurd e (by simp)) _,?_⟩
  · rw [cell_set_ne _ (by omega)];exact s.keep k j hk a b c
  · rw [heap_setCell s.blk]
    match i,q with
    | 0,_=>rfl
    | 1,_=>rfl
    | 2,_=>rfl
theorem Stage.set0 (s:Stage w h x v0 v1 v2) (v:Value):Stage w h (x.setCell ⟨w.heap.size,0,none⟩ v) v v1 v2:=(s.set 0 v).resolve_right (by omega)
theorem Stage.set1 (s:Stage w h x v0 v1 v2) (v:Value):Stage w h (x.setCell ⟨w.heap.size,1,none⟩ v) v0 v v2:=(s.set 1 v).resolve_right (by omega)
theorem Stage.set2 (s:Stage w h x v0 v1 v2) (v:Value):Stage w h (x.setCell ⟨w.heap.size,2,none⟩ v) v0 v1 v:=(s.set 2 v).resolve_right (by omega)
theorem Stage.cellP (s:Stage w h x v0 v1 v2) (hc:Cur w h) (j:Nat):x.cell? ⟨h.p,j,none⟩=w.cell? ⟨h.p,j,none⟩ :=
  s.keep _ _ (heap_lt hc.hp) (fun e=>hc.pb e.1) (fun e=>hc.pl e.1) (fun e=>hc.po e.1)
theorem Stage.cellN (s:Stage w h x v0 v1 v2) (j:Nat):x.cell? ⟨w.heap.size,j,none⟩=#[v0,v1,v2,.int .i64 h.m][j]?:=cell_of_heap s.blk j
theorem Stage.frozenN (s:Stage w h x v0 v1 v2) (j:Nat):x.frozen? ⟨w.heap.size,j,none⟩=false:=frozen_of_heap s.blk j
end
theorem OwnRow.lt {w:World} {e:TypeId} {size:Nat} {b:Option Nat} {n c k:Nat} (h:OwnRow w e size b n c) (hk:b=some k):k < w.heap.size:=by
  rcases h with ⟨e1,_⟩ | ⟨g,cur,e1,h1,_⟩
  · rw [e1] at hk;cases hk
  · rw [e1] at hk;cases hk;exact heap_lt h1
theorem OwnRow.app {w w':World} {e e':TypeId} {size size':Nat} {b r:Option Nat} {n c n' m g c':Nat} {news:List Value} (h:OwnRow w e size b n c) (a:AppPost w w' e' size' r n' m news g c') (hne:∀ k,b=some k→r≠some k):OwnRow w' e size b n c :=
  h.touch a.touch hne
theorem OwnRow.setOther {w:World} {e:TypeId} {size:Nat} {b:Option Nat} {n c:Nat} (h:OwnRow w e size b n c) (k j:Nat) (v:Value) (hne:b≠some k):OwnRow (w.setCell ⟨k,j,none⟩ v) e size b n c :=
  h.touch (T:=fun i=>i=k) ((Touch.refl (fun i=>i=k) w).setCell (p:=⟨k,j,none⟩) (fun _=>rfl) v) (fun g e1 e2=>hne (by rw [e1,e2]))
def HG.qok (h:HG):Prop:=∀ j,j < h.on→¬ h.rows (h.q j)
structure Longer (w:World) (h:HG) (w':World) (g:HG):Prop where
  cur:Cur w' g
  is:HoldIs w' g
  qok:g.qok
  em:g.m=h.m
  ebn:g.bn=h.bn+1
  eln:g.ln=h.ln+1
  eon:g.on=h.on+1
  ep:g.p=w.heap.size
  lb:∀ k,g.b=some k→h.b=some k∨w.heap.size < k
  ll:∀ k,g.l=some k→h.l=some k∨w.heap.size < k
  lo:∀ k,g.o=some k→h.o=some k∨w.heap.size < k
  eq:∀ j,j < h.on→g.q j=h.q j
  qn:w.heap.size < g.q h.on
  keep:∀ k j,k < w.heap.size→¬ (h.b=some k∧h.bn≤j)→¬ (h.l=some k∧h.ln * 3≤j)→¬ (h.o=some k∧h.on * 3≤j)→w'.cell? ⟨k,j,none⟩=w.cell? ⟨k,j,none⟩
  touch:Touch h.rows w w'
theorem longer_end {w x1 w1 w2 x3 w3 w4 x5 w5 w6:World} {p bn bc ln lc on oc m g1 k1 g2 k2 g3 k3:Nat} {b l o:Option Nat} {q:Nat→Nat} {e1 e1' e1'':Value} {a0 a1 a2:Value} {d0 d1 d2:Value}
    (hc:Cur w ⟨p,b,bn,bc,l,ln,lc,o,on,oc,q,m⟩) (hh:HoldIs w ⟨p,b,bn,bc,l,ln,lc,o,on,oc,q,m⟩) (hq:HG.qok ⟨p,b,bn,bc,l,ln,lc,o,on,oc,q,m⟩)
    (hx1:x1=((w.alloc (.cells #[.slice none 0 0,.slice none 0 0,.slice none 0 0,.int .i64 m] 126)).alloc (.cells #[.int .u8 (sg m bn)] 5)).drew)
    (P1:AppPost x1 w1 5 1 b bn 1 [.int .u8 (sg m bn)] g1 k1)
    (hw2:w2=w1.setCell ⟨w.heap.size,0,none⟩ e1)
    (hx3:x3=(w2.alloc (.cells #[.int .i64 77,.int .i64 m,.string ⟨#[]⟩] 27)).drew)
    (P2:AppPost x3 w3 27 3 l ln 1 [.int .i64 77,.int .i64 m,.string ⟨#[]⟩] g2 k2)
    (S3:Stage w ⟨p,b,bn,bc,l,ln,lc,o,on,oc,q,m⟩ x3 a0 a1 a2)
    (hw4:w4=w3.setCell ⟨w.heap.size,1,none⟩ e1')
    (hx5:x5=((w4.alloc (.cells #[.int .u8 ((m:Int) % 256)] 5)).alloc (.cells #[.bool false,.int .i64 m,.slice (some ⟨w4.heap.size,0,none⟩) 1 1] 71)).drew)
    (P3:AppPost x5 w5 71 3 o on 1 [.bool false,.int .i64 m,.slice (some ⟨w4.heap.size,0,none⟩) 1 1] g3 k3)
    (S5:Stage w ⟨p,b,bn,bc,l,ln,lc,o,on,oc,q,m⟩ x5 d0 d1 d2)
    (hw6:w6=w5.setCell ⟨w.heap.size,2,none⟩ e1'')
    (S6:Stage w ⟨p,b,bn,bc,l,ln,lc,o,on,oc,q,m⟩ w6 (.slice (some ⟨g1,0,none⟩) (bn+1) k1) (.slice (some ⟨g2,0,none⟩) (ln+1) k2) (.slice (some ⟨g3,0,none⟩) (on+1) k3)) :
    Longer w ⟨p,b,bn,bc,l,ln,lc,o,on,oc,q,m⟩ w6 ⟨w.heap.size,some g1,bn+1,k1,some g2,ln+1,k2,some g3,on+1,k3,fun j=>if j=on then w4.heap.size else q j,m⟩:=by
  have sx1:x1.heap.size=w.heap.size+2:=by subst hx1;simp
  have s2:w2.heap.size=w1.heap.size:=by subst hw2;simp [World.setCell]
  have sx3:x3.heap.size=w2.heap.size+1:=by subst hx3;simp
  have s4:w4.heap.size=w3.heap.size:=by subst hw4;simp [World.setCell]
  have sx5:x5.heap.size=w4.heap.size+2:=by subst hx5;simp
  have s6:w6.heap.size=w5.heap.size:=by subst hw6;simp [World.setCell]
  have t1:=P1.touch.size
  have t2:=P2.touch.size
  have t3:=P3.touch.size
  have lb:∀ k,b=some k→k < w.heap.size:=fun k e=>hc.rb.lt e
  have ll:∀ k,l=some k→k < w.heap.size:=fun k e=>hc.rl.lt e
  have lo:∀ k,o=some k→k < w.heap.size:=fun k e=>hc.ro.lt e
  have b1:g1 < w1.heap.size:=P1.own.lt rfl
  have b2:g2 < w3.heap.size:=P2.own.lt rfl
  have b3:g3 < w5.heap.size:=P3.own.lt rfl
  have hbl:∀ g,b=some g→l≠some g:=hc.bl
  have hbo:∀ g,b=some g→o≠some g:=hc.bo
  have hlo:∀ g,l=some g→o≠some g:=hc.lo
  have n1:g1≠w.heap.size:=by rcases P1.lies with h | h;(have:=lb _ h;omega);omega
  have n2:g2≠w.heap.size:=by rcases P2.lies with h | h;(have:=ll _ h;omega);omega
  have n3:g3≠w.heap.size:=by rcases P3.lies with h | h;(have:=lo _ h;omega);omega
  have f1l:l≠some g1:=fun e=>by rcases P1.lies with h | h;exact hbl _ h e;(have:=ll _ e;omega)
  have f1o:o≠some g1:=fun e=>by rcases P1.lies with h | h;exact hbo _ h e;(have:=lo _ e;omega)
  have f2o:o≠some g2:=fun e=>by rcases P2.lies with h | h;exact hlo _ h e;(have:=lo _ e;omega)
  have f12:g1≠g2:=fun e=>by
    subst e
    rcases P2.lies with h | h
    · exact f1l h
    · omega
  have f13:g1≠g3:=fun e=>by
    subst e
    rcases P3.lies with h | h
    · exact f1o h
    · omega
  have f23:g2≠g3:=fun e=>by
    subst e
    rcases P3.lies with h | h
    · exact f2o h
    · omega
  -- what is touched from w1, w3, w5 on
  have T5:Touch (fun k=>k=w.heap.size) w5 w6:=by subst hw6;exact (Touch.refl (fun k=>k=w.heap.size) w5).setCell (p:=⟨w.heap.size,2,none⟩) (fun _=>rfl) _
  have T3:Touch (fun k=>k=w.heap.size∨o=some k) w3 w6:=by
    have a:Touch (fun k=>k=w.heap.size∨o=some k) w3 w4:=by subst hw4;exact (Touch.refl (fun k=>k=w.heap.size∨o=some k) w3).setCell (p:=⟨w.heap.size,1,none⟩) (fun _=>.inl rfl) _
    have b:Touch (fun k=>k=w.heap.size∨o=some k) w3 x5:=by subst hx5;exact ((a.alloc _).alloc _).drew
    exact (b.trans P3.touch (fun _ _ e=>.inr e)).trans T5 (fun _ _ e=>.inl e)
  have T1:Touch (fun k=>k=w.heap.size∨l=some k∨o=some k) w1 w6:=by
    have a:Touch (fun k=>k=w.heap.size∨l=some k∨o=some k) w1 w2:=by subst hw2;exact (Touch.refl (fun k=>k=w.heap.size∨l=some k∨o=some k) w1).setCell (p:=⟨w.heap.size,0,none⟩) (fun _=>.inl rfl) _
    have b:Touch (fun k=>k=w.heap.size∨l=some k∨o=some k) w1 x3:=by subst hx3;exact (a.alloc _).drew
    exact (b.trans P2.touch (fun _ _ e=>.inr (.inl e))).trans T3 (fun _ _ e=>e.elim .inl (fun e=>.inr (.inr e)))
  have c1:∀ j v,w1.cell? ⟨g1,j,none⟩=some v→w6.cell? ⟨g1,j,none⟩=some v:=fun j v e=>T1.cell e (fun h=>h.elim n1 (fun h=>h.elim f1l f1o))
  have c2:∀ j v,w3.cell? ⟨g2,j,none⟩=some v→w6.cell? ⟨g2,j,none⟩=some v:=fun j v e=>T3.cell e (fun h=>h.elim n2 f2o)
  have c3:∀ j v,w5.cell? ⟨g3,j,none⟩=some v→w6.cell? ⟨g3,j,none⟩=some v:=fun j v e=>T5.cell e n3
  refine ⟨⟨S6.blk,?_,?_,?_,fun e=>n1 (Option.some.inj e),fun e=>n2 (Option.some.inj e),fun e=>n3 (Option.some.inj e),fun g e1 e2=>f12 (by cases e1;cases e2;rfl),fun g e1 e2=>f13 (by cases e1;cases e2;rfl),fun g e1 e2=>f23 (by cases e1;cases e2;rfl)⟩,
    ⟨S6.cellN 0,S6.cellN 1,S6.cellN 2,S6.cellN 3,?_,?_,?_⟩,?_,rfl,rfl,rfl,rfl,rfl,?_,?_,?_,?_,?_,S6.keep,S6.touch⟩
  · exact P1.own.touch T1 (fun g e h=>by cases e;exact h.elim n1 (fun h=>h.elim f1l f1o))
  · exact P2.own.touch T3 (fun g e h=>by cases e;exact h.elim n2 f2o)
  · exact P3.own.touch T5 (fun g e h=>by cases e;exact n3 h)
  · intro j hj
    refine ⟨g1,rfl,c1 _ _ ?_⟩
    dsimp only at hj ⊢
    by_cases e:j=bn
    · subst e
      have:=P1.new 0 (by omega)
      simpa using this
    · obtain ⟨g,eb,hg⟩:=hh.bs j (by dsimp only;omega)
      rw [P1.old j (by omega) g eb]
      subst hx1
      exact (World.cell?_alloc_past (w:=w.alloc _) _ _ _ (by have:=lb _ eb;simp;omega)).trans ((World.cell?_alloc_past _ _ _ (lb _ eb)).trans hg)
  · intro j hj
    dsimp only at hj ⊢
    by_cases e:j=ln
    · subst e
      have h0:=P2.new 0 (by omega)
      have h1:=P2.new 1 (by omega)
      have h2:=P2.new 2 (by omega)
      exact ⟨g2,rfl,c2 _ _ h0,c2 _ _ h1,c2 _ _ h2⟩
    · obtain ⟨g,eb,hg0,hg1,hg2⟩:=hh.ls j (by dsimp only;omega)
      have kp:∀ i,i < ln * 3→w3.cell? ⟨g2,i,none⟩=w.cell? ⟨g,i,none⟩:=fun i hi=>by
        rw [P2.old i hi g eb]
        exact S3.keep g i (ll _ eb) (fun h=>hbl _ h.1 eb) (fun h=>by dsimp only at h;omega) (fun h=>hlo _ eb h.1)
      exact ⟨g2,rfl,c2 _ _ ((kp _ (by omega)).trans hg0),c2 _ _ ((kp _ (by omega)).trans hg1),c2 _ _ ((kp _ (by omega)).trans hg2)⟩
  · intro j hj
    dsimp only at hj ⊢
    by_cases e:j=on
    · subst e
      have h0:=P3.new 0 (by omega)
      have h1:=P3.new 1 (by omega)
      have h2:=P3.new 2 (by omega)
      refine ⟨g3,1,rfl,c3 _ _ h0,c3 _ _ h1,?_,?_⟩
      · rw [if_pos rfl];exact c3 _ _ h2
      · rw [if_pos rfl]
        have hb:x5.cell? ⟨w4.heap.size,0,none⟩=some (.int .u8 ((m:Int) % 256)):=by
          subst hx5
          exact (World.cell?_alloc_past (w:=w4.alloc _) _ _ _ (by simp)).trans (World.cell?_alloc_new _ _ _ _)
        exact T5.cell (P3.touch.cell hb (fun h=>by have:=lo _ h;dsimp only at this;omega)) (by dsimp only;omega)
    · obtain ⟨g,c,eb,hg0,hg1,hg2,hg3⟩:=hh.os j (by dsimp only;omega)
      have kp:∀ i,i < on * 3→w5.cell? ⟨g3,i,none⟩=w.cell? ⟨g,i,none⟩:=fun i hi=>by
        rw [P3.old i hi g eb]
        exact S5.keep g i (lo _ eb) (fun h=>hbo _ h.1 eb) (fun h=>hlo _ h.1 eb) (fun h=>by dsimp only at h;omega)
      rw [if_neg e]
      refine ⟨g3,c,rfl,c3 _ _ ((kp _ (by omega)).trans hg0),c3 _ _ ((kp _ (by omega)).trans hg1),c3 _ _ ((kp _ (by omega)).trans hg2),?_⟩
      have nq:=hq j (by dsimp only;omega)
      rw [S6.keep (q j) 0 (World.block_lt_of_cell? _ _ hg3) (fun h=>nq (.inl h.1)) (fun h=>nq (.inr (.inl h.1))) (fun h=>nq (.inr (.inr h.1)))]
      exact hg3
  · intro j hj hr
    dsimp only [HG.rows] at hj hr
    by_cases e:j=on
    · rw [if_pos e] at hr
      rcases hr with h | h | h
      · cases h;omega
      · cases h;omega
      · cases h
        rcases P3.lies with h | h
        · have:=lo _ h;omega
        · omega
    · rw [if_neg e] at hr
      obtain ⟨g,c,eb,hg0,hg1,hg2,hg3⟩:=hh.os j (by dsimp only;omega)
      have nq:=hq j (by dsimp only;omega)
      have ql:=World.block_lt_of_cell? _ _ hg3
      dsimp only [HG.rows] at nq ql
      rcases hr with h | h | h
      · cases h
        rcases P1.lies with h | h
        · exact nq (.inl h)
        · omega
      · cases h
        rcases P2.lies with h | h
        · exact nq (.inr (.inl h))
        · omega
      · cases h
        rcases P3.lies with h | h
        · exact nq (.inr (.inr h))
        · omega
  · intro k e;cases e
    rcases P1.lies with h | h
    · exact .inl h
    · exact .inr (by omega)
  · intro k e;cases e
    rcases P2.lies with h | h
    · exact .inl h
    · exact .inr (by omega)
  · intro k e;cases e
    rcases P3.lies with h | h
    · exact .inl h
    · exact .inr (by omega)
  · intro j hj;dsimp only at hj ⊢;rw [if_neg (by omega)]
  · dsimp only;rw [if_pos rfl];omega
theorem longer_any (h:HG) (w:World) (hc:Cur w h) (hh:HoldIs w h) (hq:h.qok) (hm:h.m≤100000000) (h1:h.bn≤100000000) (h2:h.ln≤100000000) (h3:h.on≤100000000) :
    Calls Tryz.prog 101 #[.pointer (some ⟨h.p,0,none⟩)] w fun e w'=>∃ g:HG,e=.returned (.pointer (some ⟨g.p,0,none⟩))∧Longer w h w' g:=by
  obtain ⟨p,b,bn,bc,l,ln,lc,o,on,oc,q,m⟩:=h
  have c0:=hh.c0
  have c1:=hh.c1
  have c2:=hh.c2
  have c3:=hh.c3
  have HC:=hid (hc)
  have HH:=hid (hh)
  have HQ:=hid hq
  clear hc hh hq
  dsimp only at *
  unfold sl at c0 c1 c2
  obtain ⟨ib,hib,hib0,hib1,hib2⟩:=info_parts Tryz.info5
  obtain ⟨il,hil,hil0,hil1,hil2⟩:=info_parts Tryz.info27
  obtain ⟨io,hio,hio0,hio1,hio2⟩:=info_parts Tryz.info71
  have hps:p < w.heap.size:=World.block_lt_of_cell? _ _ c3
  go_enter Tryz.func101,Tryz.ntmps101
  go_wp2
  go_region_held (fun w'=>w'.cell? ⟨p,0,none⟩=some (.slice (b.map fun g=>⟨g,0,none⟩) bn bc)∧w'.cell? ⟨p,3,none⟩=some (.int .i64 m)) (go_keep) (first | (go_at_call 112;refine (sign_any m bn _ hm (by omega)).mono ?_;rintro e w' ⟨rfl,rfl⟩))
  have S1:Stage w ⟨p,b,bn,bc,l,ln,lc,o,on,oc,q,m⟩ ((w.alloc (.cells #[.slice none 0 0,.slice none 0 0,.slice none 0 0,.int .i64 m] 126)).alloc (.cells #[.int .u8 (sg m bn)] 5)).drew _ _ _:=((Stage.start w _).alloc _).drew
  have HS1:=hid (S1)
  clear S1
  have ownB:Hid (OwnRow ((w.alloc (.cells #[.slice none 0 0,.slice none 0 0,.slice none 0 0,.int .i64 m] 126)).alloc (.cells #[.int .u8 (sg m bn)] 5)).drew 5 1 b bn bc):=((HC.out.rb.alloc _).alloc _).drew
  have ownL:Hid (OwnRow ((w.alloc (.cells #[.slice none 0 0,.slice none 0 0,.slice none 0 0,.int .i64 m] 126)).alloc (.cells #[.int .u8 (sg m bn)] 5)).drew 27 3 l ln lc):=((HC.out.rl.alloc _).alloc _).drew
  have ownO:Hid (OwnRow ((w.alloc (.cells #[.slice none 0 0,.slice none 0 0,.slice none 0 0,.int .i64 m] 126)).alloc (.cells #[.int .u8 (sg m bn)] 5)).drew 71 3 o on oc):=((HC.out.ro.alloc _).alloc _).drew
  go_wp2_with (at_builtin;refine wpList_app _ rfl (.tmp 25) (.tmp 27) 31 rfl 5 ib (.int .u8 0) 1 1 Tryz.underlying31 hib hib0 hib1 hib2 rfl b bn bc (by rfl) ownB.out ⟨w.heap.size+1,0,none⟩ 1 1 [.int .u8 (sg m bn)] rfl rfl ?c1 ?c2 (by omega) (by omega) (by omega) ?_)
  case c1 =>
    intro j u hj
    match j,hj with
    | 0,hj=>simp at hj;subst hj;simp [Addr.add]
  case c2=>intro u hu;simp at hu;subst hu;rfl
  intro g1 k1 w1 P1
  have S2:=HS1.out.app P1 (fun k e=>⟨HC.out.rb.lt e,.inl e,fun j hj=>.inl ⟨e,by simpa using hj⟩⟩)
  have y0:w1.cell? ⟨w.heap.size,0,none⟩=_:=S2.cellN 0
  simp only [List.getElem?_toArray,List.getElem?_cons_zero,List.getElem?_cons_succ] at y0
  have z0:w1.frozen? ⟨w.heap.size,0,none⟩=false:=S2.frozenN 0
  have HP1:=hid (P1)
  have HS2:=hid (S2.set0 (.slice (some ⟨g1,0,none⟩) (bn+1) k1))
  have ownL1:=hid ((ownL.out.app P1 (fun k e1 e2=>HC.out.bl k e2 e1)).setOther w.heap.size 0 (.slice (some ⟨g1,0,none⟩) (bn+1) k1) (fun e=>absurd (HC.out.rl.lt e) (by omega)))
  have ownO1:=hid ((ownO.out.app P1 (fun k e1 e2=>HC.out.bo k e2 e1)).setOther w.heap.size 0 (.slice (some ⟨g1,0,none⟩) (bn+1) k1) (fun e=>absurd (HC.out.ro.lt e) (by omega)))
  clear P1 S2 ownB ownL ownO HS1
  go_wp2
  clear y0 z0
  obtain ⟨w2,hw2⟩:∃ w2:World,w2=w1.setCell ⟨w.heap.size,0,none⟩ (.slice (some ⟨g1,0,none⟩) (bn+1) k1):=⟨_,rfl⟩
  rw [← hw2] at HS2 ownL1 ownO1
  rw [← hw2]
  have HW2:=hid (hw2)
  clear hw2
  have x1:w2.cell? ⟨p,1,none⟩=_:=(HS2.out.cellP HC.out 1).trans c1
  have x3:w2.cell? ⟨p,3,none⟩=_:=(HS2.out.cellP HC.out 3).trans c3
  have y1:w2.cell? ⟨w.heap.size,1,none⟩=_:=HS2.out.cellN 1
  simp only [List.getElem?_toArray,List.getElem?_cons_zero,List.getElem?_cons_succ] at y1
  have z1:w2.frozen? ⟨w.heap.size,1,none⟩=false:=HS2.out.frozenN 1
  have lt2:w.heap.size < w2.heap.size:=HS2.out.lt
  have S3:Hid (Stage w ⟨p,b,bn,bc,l,ln,lc,o,on,oc,q,m⟩ (w2.alloc (.cells #[.int .i64 77,.int .i64 m,.string ⟨#[]⟩] 27)).drew _ _ _):=(HS2.out.alloc _).drew
  have ownL2:Hid (OwnRow (w2.alloc (.cells #[.int .i64 77,.int .i64 m,.string ⟨#[]⟩] 27)).drew 27 3 l ln lc):=(ownL1.out.alloc _).drew
  have ownO2:Hid (OwnRow (w2.alloc (.cells #[.int .i64 77,.int .i64 m,.string ⟨#[]⟩] 27)).drew 71 3 o on oc):=(ownO1.out.alloc _).drew
  go_region_held_law (fun w'=>w'.cell? ⟨p,1,none⟩=some (.slice (l.map fun g=>⟨g,0,none⟩) ln lc)∧w'.cell? ⟨p,3,none⟩=some (.int .i64 m)) (first | go_keep | exact ⟨(S4.cellP HC.out 1).trans c1,(S4.cellP HC.out 3).trans c3⟩ | exact ⟨((S4.set1 _).cellP HC.out 1).trans c1,((S4.set1 _).cellP HC.out 3).trans c3⟩)
    ((refine step_app _ (by rfl) (.tmp 35) (.tmp 41) 28 (by rfl) 27 il (.agg #[.int .i64 0,.int .i64 0,.string ⟨#[]⟩]) 3 32 Tryz.underlying28 hil hil0 hil1 hil2 rfl l ln lc (by rfl) ownL2.out ⟨w2.heap.size,0,none⟩ 1 1 [.int .i64 77,.int .i64 m,.string ⟨#[]⟩] (by rfl) rfl (World.news_of_block (heap_alloc_new w2 _)) (by intro u hu;simp at hu;rcases hu with rfl | rfl | rfl <;> rfl) (by omega) (by omega) (by omega) ?_;intro g2 k2 w3 P2;have S4:=S3.out.app P2 (fun k e=>⟨HC.out.rl.lt e,.inr (.inl e),fun j hj=>.inr (.inl ⟨e,hj⟩)⟩);have yy:w3.cell? ⟨w.heap.size,1,none⟩=some (.slice none 0 0):=S4.cellN 1;have zz:w3.frozen? ⟨w.heap.size,1,none⟩=false:=S4.frozenN 1))
  have HP2:=hid P2
  have HS4:=hid (S4.set1 (.slice (some ⟨g2,0,none⟩) (ln+1) k2))
  have ownO3:=hid ((ownO2.out.app P2 (fun k e1 e2=>HC.out.lo k e2 e1)).setOther w.heap.size 1 (.slice (some ⟨g2,0,none⟩) (ln+1) k2) (fun e=>absurd (HC.out.ro.lt e) (by omega)))
  clear P2 S4 x1 x3 y1 z1 yy zz
  obtain ⟨w4,hw4⟩:∃ w4:World,w4=w3.setCell ⟨w.heap.size,1,none⟩ (.slice (some ⟨g2,0,none⟩) (ln+1) k2):=⟨_,rfl⟩
  rw [← hw4] at HS4 ownO3
  rw [← hw4]
  have HW4:=hid hw4
  clear hw4
  have x2:w4.cell? ⟨p,2,none⟩=_:=(HS4.out.cellP HC.out 2).trans c2
  have x3:w4.cell? ⟨p,3,none⟩=_:=(HS4.out.cellP HC.out 3).trans c3
  have y2:w4.cell? ⟨w.heap.size,2,none⟩=_:=HS4.out.cellN 2
  simp only [List.getElem?_toArray,List.getElem?_cons_zero,List.getElem?_cons_succ] at y2
  have z2:w4.frozen? ⟨w.heap.size,2,none⟩=false:=HS4.out.frozenN 2
  have lt4:w.heap.size < w4.heap.size:=HS4.out.lt
  have S5:Hid (Stage w ⟨p,b,bn,bc,l,ln,lc,o,on,oc,q,m⟩ ((w4.alloc (.cells #[.int .u8 ((m:Int) % 256)] 5)).alloc (.cells #[.bool false,.int .i64 m,.slice (some ⟨w4.heap.size,0,none⟩) 1 1] 71)).drew _ _ _):=((HS4.out.alloc _).alloc _).drew
  have ownO4:Hid (OwnRow ((w4.alloc (.cells #[.int .u8 ((m:Int) % 256)] 5)).alloc (.cells #[.bool false,.int .i64 m,.slice (some ⟨w4.heap.size,0,none⟩) 1 1] 71)).drew 71 3 o on oc):=((ownO3.out.alloc _).alloc _).drew
  have HN:Hid (((w4.alloc (.cells #[.int .u8 ((m:Int) % 256)] 5)).alloc (.cells #[.bool false,.int .i64 m,.slice (some ⟨w4.heap.size,0,none⟩) 1 1] 71)).drew.heap[w4.heap.size+1]?=some (.cells #[.bool false,.int .i64 m,.slice (some ⟨w4.heap.size,0,none⟩) 1 1] 71 (0,0))):=by
    have:=heap_alloc_new (w4.alloc (.cells #[.int .u8 ((m:Int) % 256)] 5)) (.cells #[.bool false,.int .i64 m,.slice (some ⟨w4.heap.size,0,none⟩) 1 1] 71)
    rw [show (w4.alloc (.cells #[.int .u8 ((m:Int) % 256)] 5)).heap.size=w4.heap.size+1 from by simp] at this
    exact this
  go_wp2
  go_region_held_law (fun w'=>w'.cell? ⟨p,2,none⟩=some (.slice (o.map fun g=>⟨g,0,none⟩) on oc)∧w'.cell? ⟨p,3,none⟩=some (.int .i64 m)) (first | go_keep | exact ⟨(S6.cellP HC.out 2).trans c2,(S6.cellP HC.out 3).trans c3⟩ | exact ⟨((S6.set2 _).cellP HC.out 2).trans c2,((S6.set2 _).cellP HC.out 3).trans c3⟩)
    ((refine step_app _ (by rfl) (.tmp 49) (.tmp 61) 54 (by rfl) 71 io (.agg #[.bool false,.int .i64 0,.slice none 0 0]) 3 40 Tryz.underlying54 hio hio0 hio1 hio2 rfl o on oc (by rfl) ownO4.out ⟨w4.heap.size+1,0,none⟩ 1 1 [.bool false,.int .i64 m,.slice (some ⟨w4.heap.size,0,none⟩) 1 1] (by rfl) rfl (World.news_of_block HN.out) (by intro u hu;simp at hu;rcases hu with rfl | rfl | rfl <;> rfl) (by omega) (by omega) (by omega) ?_;intro g3 k3 w5 P3;have S6:=S5.out.app P3 (fun k e=>⟨HC.out.ro.lt e,.inr (.inr e),fun j hj=>.inr (.inr ⟨e,hj⟩)⟩);have yy:w5.cell? ⟨w.heap.size,2,none⟩=some (.slice none 0 0):=S6.cellN 2;have zz:w5.frozen? ⟨w.heap.size,2,none⟩=false:=S6.frozenN 2))
  have HP3:=hid P3
  have HS6:=hid (S6.set2 (.slice (some ⟨g3,0,none⟩) (on+1) k3))
  clear P3 S6 yy zz x2 x3 y2 z2
  go_wp2
  go_ret
  exact ⟨_,rfl,longer_end HC.out HH.out HQ.out rfl HP1.out HW2.out rfl HP2.out S3.out HW4.out rfl HP3.out S5.out rfl HS6.out⟩
end
end Go.Proofs.YtolififimldmlaaGreat
