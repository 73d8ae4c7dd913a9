import Derived.Test.YtolififimldmlaaGreatPart04
import Derived.Deep.AppendSrc
set_option linter.unusedVariables false
set_option linter.unusedSimpArgs false
set_option maxRecDepth 100000
set_option maxHeartbeats 16000000
namespace Go.Proofs.YtolififimldmlaaGreat
section
open Go.RowKit
def BytesAt (w:World) (g:Option Nat) (l:List UInt8):Prop:=∀ j (h:j < l.length),∃ k,g=some k∧w.cell? ⟨k,j,none⟩=some (.int .u8 l[j].toNat)
section
variable {P:Program} (w:World)
theorem run_appS (t tx ty:TypeId) (e:TypeId) (i:TypeInfo) (z:Value) (size bytes:Nat) (ht:P.underlying t=some (.slice e)) (hi:P.info? e=some i) (hz:i.zero=some z)
    (hsize:i.size=size) (hby:i.bytes=bytes) (hzs:z.cells.size=size)
    (g n c:Nat) (hown:OwnRow w e size (some g) n c) (x:Value) (m:Nat) (news:List Value) (hs:Src P size tx x m news w)
    (hbytes:(n+m) * bytes≤140737488355328) (h63:n+m≤140737488355328) :
    ∃ g' c' w',(Builtin.append_ #[t,tx] ty #[.slice (some ⟨g,0,none⟩) n c,x]).run P w=.ok (.slice (some ⟨g',0,none⟩) (n+m) c') w'∧AppPost w w' e size (some g) n m news g' c':=by
  subst hsize
  subst hby
  have hmx:n+m≤maxLen:=by simp only [maxLen];omega
  have hl:=hs.newsLen
  rcases hown with ⟨h,_⟩ | ⟨g0,cur,h,hg,hcs,hnc,hcm⟩
  · cases h
  cases h
  by_cases hroom:n+m≤c
  · have hns:n * i.size+news.length=(n+m) * i.size:=by rw [hl,← Nat.add_mul]
    have hfit:n * i.size+news.length≤cur.size:=by rw [hns,hcs];exact Nat.mul_le_mul_right _ hroom
    have hst:=run_storeCells_at P g (n * i.size) e news 0 cur w hg (by simpa using hfit) hs.one
    simp only [Nat.add_zero] at hst
    have hr:(Builtin.append_ #[t,tx] ty #[.slice (some ⟨g,0,none⟩) n c,x]).run P w=.ok (.slice (some ⟨g,0,none⟩) (n+m) c) (w.setRow g (cur.toList.take (n * i.size)++news++cur.toList.drop (n * i.size+news.length)).toArray):=by
      rcases hs.kind with ⟨e',hk⟩ | hk <;> simp [Builtin.append_,run_underlying ht,run_underlying hk,sizeOf,typeInfo,hi,hs.len,hroom,hs.cells,Addr.add_lit,hst]
    have hsr:=setRow_heap w g cur (cur.toList.take (n * i.size)++news++cur.toList.drop (n * i.size+news.length)).toArray e (0,0) hg
    have htl:(cur.toList.take (n * i.size)).length=n * i.size:=by rw [List.length_take,Array.length_toList];omega
    have hold:∀ j,j < n * i.size→(cur.toList.take (n * i.size)++news++cur.toList.drop (n * i.size+news.length)).toArray[j]?=cur[j]?:=fun j hj=>by
      simp only [List.getElem?_toArray]
      rw [List.getElem?_append_left (by simp only [List.length_append,htl];omega),List.getElem?_append_left (by omega),List.getElem?_take_of_lt hj,Array.getElem?_toList]
    refine ⟨g,c,_,hr,⟨.inr ⟨g,_,rfl,hsr,?_,hroom,hcm⟩,fun j hj=>?_,fun j hj k hk=>?_,fun k j hk hn=>?_,⟨rfl,rfl,rfl,by simp [World.setRow],fun k _ hk=>setRow_other w g k _ (fun e=>hk (by rw [e]))⟩,.inl rfl⟩⟩
    · simp only [List.size_toArray,List.length_append,List.length_drop,htl,Array.length_toList];omega
    · rw [cell_of_heap hsr]
      simp only [List.getElem?_toArray]
      rw [List.getElem?_append_left (by simp only [List.length_append,htl];omega),List.getElem?_append_right (by omega),htl]
      congr 1;omega
    · cases hk
      rw [cell_of_heap hsr,cell_of_heap hg];exact hold j hj
    · by_cases hkg:k=g
      · subst hkg
        rw [cell_of_heap hsr,cell_of_heap hg];exact hold j (by rcases Nat.lt_or_ge j (n * i.size) with h | h;exact h;exact absurd ⟨rfl,h⟩ hn)
      · exact World.cell?_of_block (setRow_other w g k _ hkg)
  · have hxl:(cur.toList.take (n * i.size)).length=n * i.size:=by
      rw [List.length_take,Array.length_toList,hcs];have:=Nat.mul_le_mul_right i.size hnc;omega
    have hxs:∀ j,j < n * i.size→(cur.toList.take (n * i.size))[j]?=w.cell? ⟨g,j,none⟩:=fun j hj=>by
      rw [cell_of_heap hg,List.getElem?_take_of_lt hj,Array.getElem?_toList]
    have holds:∀ j u,(cur.toList.take (n * i.size))[j]?=some u→w.drew.cell? ((⟨g,0,none⟩:Addr).add j)=some u:=fun j u hu=>by
      have hj:j < n * i.size:=by
        rcases Nat.lt_or_ge j (n * i.size) with h | h
        · exact h
        · rw [List.getElem?_eq_none (by omega)] at hu;cases hu
      rw [addr_add,Nat.zero_add]
      exact (hxs j hj).symm.trans hu
    have hf:=run_firstCells_some (P:=P) w.drew i.size n ⟨g,0,none⟩ n c _ hxl holds
    have hr:=run_append_grow_src (P:=P) w t tx ty e i z ht hi hz (some ⟨g,0,none⟩) n c _ hf x m news hs (by omega) (by omega) (growslice_fits (by omega) hbytes)
    have hge:=grownCap_ge w (n+m) c e
    have hcm:grownCap w (n+m) c e≤maxLen:=grownCap_le_maxLen w (n+m) c e hmx
    have hnew:=heap_alloc_new w.drew (.cells (((cur.toList.take (n * i.size))++news).toArray++Builtin.zeroCells z.cells (grownCap w (n+m) c e - (n+m))) e)
    refine ⟨_,_,_,hr,⟨.inr ⟨_,_,rfl,hnew,?_,hge,hcm⟩,fun j hj=>?_,fun j hj k hk=>?_,fun k j hk _=>?_,((Touch.refl _ w).drew).alloc _,.inr (Nat.le_refl _)⟩⟩
    · simp only [Array.size_append,List.size_toArray,List.length_append,size_zeroCells,hzs,hxl,hl,← Nat.add_mul]
      congr 1
      omega
    · have h0:=cell_of_heap hnew (n * i.size+j)
      refine h0.trans ?_
      rw [Array.getElem?_append_left (by rw [List.size_toArray,List.length_append,hxl];omega),List.getElem?_toArray,List.getElem?_append_right (by omega),hxl]
      congr 1;omega
    · have h0:=cell_of_heap hnew j
      refine h0.trans ?_
      rw [Array.getElem?_append_left (by rw [List.size_toArray,List.length_append,hxl];omega),List.getElem?_toArray,List.getElem?_append_left (by omega)]
      cases hk
      exact hxs j hj
    · exact World.cell?_alloc_past (w:=w.drew) _ _ _ hk
theorem wp_appS {o:Oper} {a:Act} {K:Act→World→Prop} {Q:Exit→Act→World→Prop} (s y:Operand) (t tx:TypeId)
    (ho:o.op=.call { callee:=.builtin .append,args:=#[s,y],argTypes:=#[t,tx] })
    (e:TypeId) (i:TypeInfo) (z:Value) (size bytes:Nat) (ht:P.underlying t=some (.slice e)) (hi:P.info? e=some i) (hz:i.zero=some z)
    (hsize:i.size=size) (hby:i.bytes=bytes) (hzs:z.cells.size=size)
    (g n c:Nat) (hq:a.eval s=.slice (some ⟨g,0,none⟩) n c) (hown:OwnRow w e size (some g) n c)
    (x:Value) (hx:a.eval y=x) (m:Nat) (news:List Value) (hs:Src P size tx x m news w)
    (hbytes:(n+m) * bytes≤140737488355328) (h63:n+m≤140737488355328)
    (h:∀ g' c' w',AppPost w w' e size (some g) n m news g' c'→K (a.put o.dst (.slice (some ⟨g',0,none⟩) (n+m) c')) w'):o.wp P a w K Q:=by
  obtain ⟨g',c',w',hr,h2⟩:=run_appS (P:=P) w t tx o.type e i z size bytes ht hi hz hsize hby hzs g n c hown x m news hs hbytes h63
  unfold Oper.wp execOp
  simp only [ho,resolve,invoke,builtin,Sem.run_bind,Sem.run_pure,Result.andThen_ok,List.map_toArray,List.map_cons,List.map_nil,hq,hx,hr]
  exact h g' c' w' h2
theorem wpList_appS {ops:Array Oper} {rest:List Oper} {o:Oper} {a:Act} {Q:Exit→Act→World→Prop} (hgd:o.guard=none) (s y:Operand) (t tx:TypeId)
    (ho:o.op=.call { callee:=.builtin .append,args:=#[s,y],argTypes:=#[t,tx] })
    (e:TypeId) (i:TypeInfo) (z:Value) (size bytes:Nat) (ht:P.underlying t=some (.slice e)) (hi:P.info? e=some i) (hz:i.zero=some z)
    (hsize:i.size=size) (hby:i.bytes=bytes) (hzs:z.cells.size=size)
    (g n c:Nat) (hq:a.eval s=.slice (some ⟨g,0,none⟩) n c) (hown:OwnRow w e size (some g) n c)
    (x:Value) (hx:a.eval y=x) (m:Nat) (news:List Value) (hs:Src P size tx x m news w)
    (hbytes:(n+m) * bytes≤140737488355328) (h63:n+m≤140737488355328)
    (h:∀ g' c' w',AppPost w w' e size (some g) n m news g' c'→wpList P ops Q rest (a.put o.dst (.slice (some ⟨g',0,none⟩) (n+m) c')) w'):wpList P ops Q (o :: rest) a w :=
  wpList_plain hgd fun _ hK=>wp_appS w s y t tx ho e i z size bytes ht hi hz hsize hby hzs g n c hq hown x hx m news hs hbytes h63 fun g' c' w' h2=>hK _ _ (h g' c' w' h2)
end
structure NilPost (w w':World) (e:TypeId) (size:Nat) (m:Nat) (news:List Value) (b:Option Nat) (c:Nat):Prop where
  own:OwnRow w' e size b m c
  new:∀ j,j < m * size→∃ g,b=some g∧w'.cell? ⟨g,j,none⟩=news[j]?
  fresh:∀ g,b=some g→w.heap.size≤g
  below:Below w.heap.size w w'
section
variable {P:Program} (w:World)
theorem run_appN (t tx ty:TypeId) (e:TypeId) (i:TypeInfo) (z:Value) (size bytes:Nat) (ht:P.underlying t=some (.slice e)) (hi:P.info? e=some i) (hz:i.zero=some z)
    (hsize:i.size=size) (hby:i.bytes=bytes) (hzs:z.cells.size=size) (x:Value) (m:Nat) (news:List Value) (hs:Src P size tx x m news w)
    (hbytes:m * bytes≤140737488355328) (h63:m≤140737488355328) :
    ∃ b c w',(Builtin.append_ #[t,tx] ty #[.slice none 0 0,x]).run P w=.ok (sl b m c) w'∧NilPost w w' e size m news b c:=by
  subst hsize
  subst hby
  have hl:=hs.newsLen
  rcases Nat.eq_zero_or_pos m with hm | hm
  · subst hm
    have hn0:news=[]:=by cases news with | nil=>rfl | cons a l=>simp at hl
    subst hn0
    refine ⟨none,0,w,?_,⟨.inl ⟨rfl,rfl,rfl⟩,fun j hj=>(by omega),fun g e=>(by cases e),Below.refl _ _⟩⟩
    rcases hs.kind with ⟨e',hk⟩ | hk <;> simp [Builtin.append_,run_underlying ht,run_underlying hk,sizeOf,typeInfo,hi,hs.len,hs.cells,storeCells,sl]
  · have hmx:m≤maxLen:=by simp only [maxLen];omega
    have hr:=run_append_grow_src (P:=P) w t tx ty e i z ht hi hz none 0 0 [] (run_firstCells_none w.drew i.size 0 0 0) x m news hs (by omega) (by omega) (growslice_fits (by omega) (by simpa using hbytes))
    simp only [Nat.zero_add,List.nil_append] at hr
    have hge:=grownCap_ge w m 0 e
    have hcm:grownCap w m 0 e≤maxLen:=grownCap_le_maxLen w m 0 e hmx
    have hnew:=heap_alloc_new w.drew (.cells (news.toArray++Builtin.zeroCells z.cells (grownCap w m 0 e - m)) e)
    refine ⟨some w.heap.size,_,_,hr,⟨.inr ⟨_,_,rfl,hnew,?_,hge,hcm⟩,fun j hj=>⟨_,rfl,?_⟩,fun g e=>(by cases e;exact Nat.le_refl _),((Below.refl _ w).drew).alloc (Nat.le_refl _) _⟩⟩
    · simp only [Array.size_append,List.size_toArray,size_zeroCells,hzs,hl,← Nat.add_mul]
      congr 1
      omega
    · have h0:=cell_of_heap hnew j
      refine h0.trans ?_
      rw [Array.getElem?_append_left (by rw [List.size_toArray];omega),List.getElem?_toArray]
theorem wpList_appN {ops:Array Oper} {rest:List Oper} {o:Oper} {a:Act} {Q:Exit→Act→World→Prop} (hgd:o.guard=none) (s y:Operand) (t tx:TypeId)
    (ho:o.op=.call { callee:=.builtin .append,args:=#[s,y],argTypes:=#[t,tx] })
    (e:TypeId) (i:TypeInfo) (z:Value) (size bytes:Nat) (ht:P.underlying t=some (.slice e)) (hi:P.info? e=some i) (hz:i.zero=some z)
    (hsize:i.size=size) (hby:i.bytes=bytes) (hzs:z.cells.size=size)
    (hq:a.eval s=.slice none 0 0) (x:Value) (hx:a.eval y=x) (m:Nat) (news:List Value) (hs:Src P size tx x m news w)
    (hbytes:m * bytes≤140737488355328) (h63:m≤140737488355328)
    (h:∀ b c w',NilPost w w' e size m news b c→wpList P ops Q rest (a.put o.dst (sl b m c)) w'):wpList P ops Q (o :: rest) a w:=by
  refine wpList_plain hgd fun _ hK=>?_
  obtain ⟨b,c,w',hr,h2⟩:=run_appN (P:=P) w t tx o.type e i z size bytes ht hi hz hsize hby hzs x m news hs hbytes h63
  unfold Oper.wp execOp
  simp only [ho,resolve,invoke,builtin,Sem.run_bind,Sem.run_pure,Result.andThen_ok,List.map_toArray,List.map_cons,List.map_nil,hq,hx,hr]
  exact hK _ _ (h b c w' h2)
end
end
section
open Go.RowKit
attribute [local go_sem ↓] Go.wp_at_zero Go.wp_at_succ
def HG.foot (h:HG) (k i:Nat):Prop:=k=h.p∨(h.b=some k∧i < h.bn)∨(h.l=some k∧i < h.ln * 3)∨(h.o=some k∧i < h.on * 3)∨∃ j,j < h.on∧k=h.q j
theorem HoldIs.foot {x y:World} {h:HG} (hh:HoldIs x h) (hk:∀ k i,h.foot k i→y.cell? ⟨k,i,none⟩=x.cell? ⟨k,i,none⟩):HoldIs y h:=by
  refine ⟨(hk _ _ (.inl rfl)).trans hh.c0,(hk _ _ (.inl rfl)).trans hh.c1,(hk _ _ (.inl rfl)).trans hh.c2,(hk _ _ (.inl rfl)).trans hh.c3,fun j hj=>?_,fun j hj=>?_,fun j hj=>?_⟩
  · obtain ⟨g,e,a⟩:=hh.bs j hj;exact ⟨g,e,(hk _ _ (.inr (.inl ⟨e,hj⟩))).trans a⟩
  · obtain ⟨g,e,a,b,c⟩:=hh.ls j hj
    exact ⟨g,e,(hk _ _ (.inr (.inr (.inl ⟨e,by omega⟩)))).trans a,(hk _ _ (.inr (.inr (.inl ⟨e,by omega⟩)))).trans b,(hk _ _ (.inr (.inr (.inl ⟨e,by omega⟩)))).trans c⟩
  · obtain ⟨g,cc,e,a,b,c,d⟩:=hh.os j hj
    exact ⟨g,cc,e,(hk _ _ (.inr (.inr (.inr (.inl ⟨e,by omega⟩))))).trans a,(hk _ _ (.inr (.inr (.inr (.inl ⟨e,by omega⟩))))).trans b,(hk _ _ (.inr (.inr (.inr (.inl ⟨e,by omega⟩))))).trans c,
      (hk _ _ (.inr (.inr (.inr (.inr ⟨j,hj,rfl⟩))))).trans d⟩
theorem HoldIs.foot_lt {x:World} {h:HG} (hh:HoldIs x h) {k i:Nat} (hf:h.foot k i):k < x.heap.size:=by
  rcases hf with rfl | ⟨e,hi⟩ | ⟨e,hi⟩ | ⟨e,hi⟩ | ⟨j,hj,rfl⟩
  · exact World.block_lt_of_cell? _ _ hh.c0
  · obtain ⟨g,e',a⟩:=hh.bs i hi
    rw [e] at e';cases e';exact World.block_lt_of_cell? _ _ a
  · obtain ⟨g,e',a,_⟩:=hh.ls (i / 3) (by omega)
    rw [e] at e';cases e';exact World.block_lt_of_cell? _ _ a
  · obtain ⟨g,_,e',a,_⟩:=hh.os (i / 3) (by omega)
    rw [e] at e';cases e';exact World.block_lt_of_cell? _ _ a
  · obtain ⟨g,_,e',_,_,_,a⟩:=hh.os j hj
    exact World.block_lt_of_cell? _ _ a
structure WI (x:World) (W:Nat) (psv:Value) (lead:Bool) (gh:Option Nat) (n cap:Nat) (H:Nat→HG):Prop where
  wb:x.heap[W]?=some (.cells #[psv,sl gh n cap,.bool lead] 81 (0,0))
  ow:OwnRow x 124 1 gh n cap
  hw:gh≠some W
  ptr:∀ j,j < n→∃ g,gh=some g∧x.cell? ⟨g,j,none⟩=some (.pointer (some ⟨(H j).p,0,none⟩))
  is:∀ j,j < n→HoldIs x (H j)
  sm:∀ j,j < n→(H j).m≤100000000∧(H j).bn≤100000000∧(H j).ln≤100000000∧(H j).on≤100000000
  ap:∀ j,j < n→∀ k i,(H j).foot k i→k≠W∧gh≠some k
theorem WI.looks {x:World} {W:Nat} {psv:Value} {lead:Bool} {gh:Option Nat} {n cap:Nat} {H:Nat→HG} (h:WI x W psv lead gh n cap H) (hn:n≤100000000) :
    Calls Tryz.prog 31 #[.pointer (some ⟨W,0,none⟩)] x fun e w'=>e=.returned (.bool true)∧Below x.heap.size x w' :=
  looks_any W n cap gh H x hn (by rw [cell_of_heap h.wb];rfl) h.ptr h.is h.sm
theorem WI.touch {T:Nat→Prop} {x y:World} {W:Nat} {psv:Value} {lead:Bool} {gh:Option Nat} {n cap:Nat} {H:Nat→HG} (h:WI x W psv lead gh n cap H) (ht:Touch T x y)
    (hW:¬ T W) (hg:∀ k,gh=some k→¬ T k) (hf:∀ j,j < n→∀ k i,(H j).foot k i→y.cell? ⟨k,i,none⟩=x.cell? ⟨k,i,none⟩):WI y W psv lead gh n cap H :=
  ⟨ht.heapAt h.wb hW,h.ow.touch ht hg,h.hw,fun j hj=>by obtain ⟨g,e,a⟩:=h.ptr j hj;exact ⟨g,e,ht.cell a (hg g e)⟩,fun j hj=>(h.is j hj).foot (hf j hj),h.sm,h.ap⟩
theorem WI.below {x y:World} {W:Nat} {psv:Value} {lead:Bool} {gh:Option Nat} {n cap:Nat} {H:Nat→HG} (h:WI x W psv lead gh n cap H) (hb:Below x.heap.size x y):WI y W psv lead gh n cap H :=
  h.touch (T:=fun _=>False) (Touch.of_belowAll hb _) (fun e=>e) (fun _ _ e=>e) (fun j hj k i hf=>hb.cell ((h.is j hj).foot_lt hf))
theorem WI.push {x y z:World} {W:Nat} {psv:Value} {lead:Bool} {gh:Option Nat} {n cap:Nat} {H:Nat→HG} (h:WI x W psv lead gh n cap H) {g:HG} (hc:Cur x g) (hi:HoldIs x g)
    (hs:g.m≤100000000∧g.bn≤100000000∧g.ln≤100000000∧g.on≤100000000) (hf:∀ k i,g.foot k i→k≠W∧gh≠some k) (hr:∀ k,g.rows k→k≠W∧gh≠some k)
    {o:Obj} {k4 c4:Nat} (a:AppPost (x.alloc o) y 124 1 gh n 1 [.pointer (some ⟨g.p,0,none⟩)] k4 c4) (hz:z=y.setCell ⟨W,1,none⟩ (.slice (some ⟨k4,0,none⟩) (n+1) c4)) :
    WI z W psv lead (some k4) (n+1) c4 (fun j=>if j=n then g else H j)∧Cur z g∧HoldIs z g∧Touch (fun k=>k=W∨gh=some k) x z∧(gh=some k4∨x.heap.size < k4):=by
  have hW:W < x.heap.size:=heap_lt h.wb
  have lies:gh=some k4∨x.heap.size < k4:=by
    rcases a.lies with e | e
    · exact .inl e
    · exact .inr (by simp at e;omega)
  have nW:k4≠W:=by
    rcases lies with e | e
    · exact fun e'=>h.hw (by rw [← e'];exact e)
    · omega
  have t1:Touch (fun k=>k=W∨gh=some k) x y:=((Touch.refl _ x).alloc o).trans a.touch (fun _ _ e=>.inr e)
  have t2:Touch (fun k=>k=W∨gh=some k) x z:=by subst hz;exact t1.setCell (p:=⟨W,1,none⟩) (fun _=>.inl rfl) _
  have wy:y.heap[W]?=_:=((Touch.refl _ x).alloc o |>.trans a.touch (T:=fun k=>gh=some k) (fun _ _ e=>e)).heapAt h.wb h.hw
  have cell:∀ k i,k < x.heap.size→k≠W→gh≠some k→z.cell? ⟨k,i,none⟩=x.cell? ⟨k,i,none⟩:=fun k i hk n1 n2=>World.cell?_of_block (t2.block k hk (fun e=>e.elim n1 n2))
  have keepH:∀ j,j < n→∀ k i,(H j).foot k i→z.cell? ⟨k,i,none⟩=x.cell? ⟨k,i,none⟩:=fun j hj k i hk=>cell k i ((h.is j hj).foot_lt hk) (h.ap j hj k i hk).1 (h.ap j hj k i hk).2
  have keepG:∀ k i,g.foot k i→z.cell? ⟨k,i,none⟩=x.cell? ⟨k,i,none⟩:=fun k i hk=>cell k i (hi.foot_lt hk) (hf k i hk).1 (hf k i hk).2
  have oy:OwnRow z 124 1 (some k4) (n+1) c4:=by subst hz;exact a.own.setOther W 1 _ (fun e=>nW (Option.some.inj e))
  have cz:∀ i,z.cell? ⟨k4,i,none⟩=y.cell? ⟨k4,i,none⟩:=fun i=>by subst hz;exact cell_set_ne _ (.inl (Ne.symm nW))
  have fl:∀ k,k < x.heap.size→gh≠some k→some k4≠some k:=fun k hk n1 e=>by
    have e:=Option.some.inj e
    subst e
    rcases lies with q | q
    · exact n1 q
    · omega
  refine ⟨⟨?_,oy,fun e=>nW (Option.some.inj e),fun j hj=>⟨k4,rfl,?_⟩,fun j hj=>?_,fun j hj=>?_,fun j hj k i hk=>?_⟩,?_,hi.foot keepG,t2,lies⟩
  · subst hz;rw [heap_setCell wy];rfl
  · rw [cz]
    by_cases e:j=n
    · subst e
      have:=a.new 0 (by omega)
      simpa using this
    · obtain ⟨g',e',hc'⟩:=h.ptr j (by omega)
      rw [a.old j (by omega) g' e',if_neg e]
      exact (World.cell?_alloc_past _ _ _ (World.block_lt_of_cell? _ _ hc')).trans hc'
  · by_cases e:j=n
    · rw [if_pos e];exact hi.foot keepG
    · rw [if_neg e];exact (h.is j (by omega)).foot (keepH j (by omega))
  · by_cases e:j=n
    · rw [if_pos e];exact hs
    · rw [if_neg e];exact h.sm j (by omega)
  · by_cases e:j=n
    · rw [if_pos e] at hk
      exact ⟨(hf k i hk).1,fl k (hi.foot_lt hk) (hf k i hk).2⟩
    · rw [if_neg e] at hk
      exact ⟨(h.ap j (by omega) k i hk).1,fl k ((h.is j (by omega)).foot_lt hk) (h.ap j (by omega) k i hk).2⟩
  · have pf:=hf g.p 0 (.inl rfl)
    exact hc.touch t2 (fun e=>e.elim pf.1 pf.2) (fun k e t=>t.elim (hr k (.inl e)).1 (hr k (.inl e)).2) (fun k e t=>t.elim (hr k (.inr (.inl e))).1 (hr k (.inr (.inl e))).2) (fun k e t=>t.elim (hr k (.inr (.inr e))).1 (hr k (.inr (.inr e))).2)
structure KInv (x:World) (W:Nat) (psv:Value) (lead:Bool) (gh:Option Nat) (n:Nat) (H:Nat→HG) (h:HG) (r:Nat) (y:World) (gh':Option Nat) (cap':Nat) (H':Nat→HG) (g:HG):Prop where
  wi:WI y W psv lead gh' (n+1+r) cap' H'
  agree:∀ j,j < n→H' j=H j
  cur:Cur y g
  is:HoldIs y g
  qok:g.qok
  em:g.m=n+1
  ebn:g.bn=h.bn+r
  eln:g.ln=h.ln+r
  eon:g.on=h.on+r
  apart:∀ j,j < n+1+r→∀ k i,(H' j).foot k i→¬ (g.b=some k∧g.bn≤i)∧¬ (g.l=some k∧g.ln * 3≤i)∧¬ (g.o=some k∧g.on * 3≤i)
  gf:∀ k i,g.foot k i→k≠W∧gh'≠some k
  gr:∀ k,g.rows k→k≠W∧gh'≠some k
  tch:Touch (fun k=>k=W∨gh=some k∨k=h.p∨h.rows k) x y
  gha:∀ k,gh'=some k→gh=some k∨x.heap.size≤k
  new:∀ j,n≤j→j < n+1+r→∀ k i,(H' j).foot k i→k=h.p∨h.rows k∨x.heap.size≤k
  grn:∀ k,g.rows k→h.rows k∨x.heap.size≤k
  gfn:∀ k i,g.foot k i→k=h.p∨h.rows k∨x.heap.size≤k
theorem foot_apart {y:World} {g:HG} (hc:Cur y g) (hq:g.qok) (k i:Nat) (hf:g.foot k i):¬ (g.b=some k∧g.bn≤i)∧¬ (g.l=some k∧g.ln * 3≤i)∧¬ (g.o=some k∧g.on * 3≤i):=by
  rcases hf with rfl | ⟨e,hi⟩ | ⟨e,hi⟩ | ⟨e,hi⟩ | ⟨j,hj,rfl⟩
  · exact ⟨fun h=>hc.pb h.1,fun h=>hc.pl h.1,fun h=>hc.po h.1⟩
  · exact ⟨fun h=>by omega,fun h=>hc.bl k e h.1,fun h=>hc.bo k e h.1⟩
  · exact ⟨fun h=>hc.bl k h.1 e,fun h=>by omega,fun h=>hc.lo k e h.1⟩
  · exact ⟨fun h=>hc.bo k h.1 e,fun h=>hc.lo k h.1 e,fun h=>by omega⟩
  · exact ⟨fun h=>hq j hj (.inl h.1),fun h=>hq j hj (.inr (.inl h.1)),fun h=>hq j hj (.inr (.inr h.1))⟩
theorem Cur.rows_lt {y:World} {g:HG} (hc:Cur y g) {k:Nat} (hr:g.rows k):k < y.heap.size:=by
  rcases hr with e | e | e
  · exact hc.rb.lt e
  · exact hc.rl.lt e
  · exact hc.ro.lt e
section
variable {x:World} {W:Nat} {psv:Value} {lead:Bool} {gh:Option Nat} {n:Nat} {H:Nat→HG} {h:HG} {r:Nat} {y:World} {gh':Option Nat} {cap':Nat} {H':Nat→HG} {g:HG}
theorem Longer.rows {y y2:World} {g g2:HG} (L:Longer y g y2 g2) (k:Nat) (hr:g2.rows k):g.rows k∨y.heap.size < k:=by
  rcases hr with e | e | e
  · exact (L.lb k e).imp .inl id
  · exact (L.ll k e).imp (fun e=>.inr (.inl e)) id
  · exact (L.lo k e).imp (fun e=>.inr (.inr e)) id
theorem Longer.foots {y y2:World} {g g2:HG} (L:Longer y g y2 g2) (k i:Nat) (hf:g2.foot k i):g.rows k∨y.heap.size≤k∨g.foot k 0:=by
  rcases hf with rfl | ⟨e,hi⟩ | ⟨e,hi⟩ | ⟨e,hi⟩ | ⟨j,hj,rfl⟩
  · exact .inr (.inl (by rw [L.ep];omega))
  · rcases L.lb k e with e | e
    · exact .inl (.inl e)
    · exact .inr (.inl (by omega))
  · rcases L.ll k e with e | e
    · exact .inl (.inr (.inl e))
    · exact .inr (.inl (by omega))
  · rcases L.lo k e with e | e
    · exact .inl (.inr (.inr e))
    · exact .inr (.inl (by omega))
  · by_cases e:j=g.on
    · subst e;exact .inr (.inl (by have:=L.qn;omega))
    · have hj':j < g.on:=by have:=L.eon;omega
      exact .inr (.inr (.inr (.inr (.inr (.inr ⟨j,hj',L.eq j hj'⟩)))))
theorem KInv.longer (K:KInv x W psv lead gh n H h r y gh' cap' H' g) {y2:World} {g2:HG} (L:Longer y g y2 g2):WI y2 W psv lead gh' (n+1+r) cap' H' :=
  K.wi.touch L.touch (fun e=>(K.gr _ e).1 rfl) (fun k e e'=>(K.gr k e').2 e) (fun j hj k i hf=>by
    obtain ⟨a,b,c⟩:=K.apart j hj k i hf
    exact L.keep k i ((K.wi.is j hj).foot_lt hf) a b c)
theorem KInv.step (K:KInv x W psv lead gh n H h r y gh' cap' H' g) {y2 y3 y4:World} {g2:HG} (L:Longer y g y2 g2) (hs:n+1≤100000000∧h.bn+r+1≤100000000∧h.ln+r+1≤100000000∧h.on+r+1≤100000000)
    {o:Obj} {k4 c4:Nat} (a:AppPost (y2.alloc o) y3 124 1 gh' (n+1+r) 1 [.pointer (some ⟨g2.p,0,none⟩)] k4 c4) (hz:y4=y3.setCell ⟨W,1,none⟩ (.slice (some ⟨k4,0,none⟩) (n+1+r+1) c4)) :
    KInv x W psv lead gh n H h (r+1) y4 (some k4) c4 (fun j=>if j=n+1+r then g2 else H' j) g2:=by
  have w2:=K.longer L
  have hWy:W < y.heap.size:=heap_lt K.wi.wb
  have hgy:∀ k,gh'=some k→k < y.heap.size:=fun k e=>K.wi.ow.lt e
  have gr2:∀ k,g2.rows k→k≠W∧gh'≠some k:=fun k hr=>by
    rcases L.rows k hr with e | e
    · exact K.gr k e
    · exact ⟨by omega,fun e'=>by have:=hgy k e';omega⟩
  have gf2:∀ k i,g2.foot k i→k≠W∧gh'≠some k:=fun k i hf=>by
    rcases L.foots k i hf with e | e | e
    · exact K.gr k e
    · exact ⟨by omega,fun e'=>by have:=hgy k e';omega⟩
    · exact K.gf k 0 e
  have tsz:=L.touch.size
  have xsz:=K.tch.size
  obtain ⟨q1,q2,q3,q4,q5⟩:=w2.push L.cur L.is ⟨by rw [L.em,K.em];exact hs.1,by rw [L.ebn,K.ebn];omega,by rw [L.eln,K.eln];omega,by rw [L.eon,K.eon];omega⟩ gf2 gr2 a hz
  refine ⟨q1,fun j hj=>?_,q2,q3,L.qok,by rw [L.em,K.em],by rw [L.ebn,K.ebn];omega,by rw [L.eln,K.eln];omega,by rw [L.eon,K.eon];omega,fun j hj k i hf=>?_,fun k i hf=>?_,fun k hr=>?_,?_,fun k e=>?_,fun j h1 h2 k i hf=>?_,fun k hr=>?_,fun k i hf=>?_⟩
  · rw [if_neg (by omega)];exact K.agree j hj
  · by_cases e:j=n+1+r
    · rw [if_pos e] at hf
      exact foot_apart L.cur L.qok k i hf
    · rw [if_neg e] at hf
      have hjl:j < n+1+r:=by omega
      obtain ⟨a1,a2,a3⟩:=K.apart j hjl k i hf
      have hk:=(K.wi.is j hjl).foot_lt hf
      have e1:=L.ebn
      have e2:=L.eln
      have e3:=L.eon
      refine ⟨fun q=>?_,fun q=>?_,fun q=>?_⟩
      · rcases L.lb k q.1 with e | e
        · exact a1 ⟨e,by omega⟩
        · omega
      · rcases L.ll k q.1 with e | e
        · exact a2 ⟨e,by omega⟩
        · omega
      · rcases L.lo k q.1 with e | e
        · exact a3 ⟨e,by omega⟩
        · omega
  · refine ⟨(gf2 k i hf).1,fun e=>?_⟩
    have e:=Option.some.inj e
    subst e
    rcases q5 with q | q
    · exact (gf2 _ i hf).2 q
    · have:=L.is.foot_lt hf;omega
  · refine ⟨(gr2 k hr).1,fun e=>?_⟩
    have e:=Option.some.inj e
    subst e
    rcases q5 with q | q
    · exact (gr2 _ hr).2 q
    · have:=L.cur.rows_lt hr;omega
  · refine (K.tch.trans L.touch (fun i hi e=>?_)).trans q4 (fun i hi e=>?_)
    · rcases K.grn i e with e | e
      · exact .inr (.inr (.inr e))
      · omega
    · rcases e with e | e
      · exact .inl e
      · rcases K.gha i e with e | e
        · exact .inr (.inl e)
        · omega
  · have e:=Option.some.inj e
    subst e
    rcases q5 with q | q
    · exact K.gha _ q
    · exact .inr (by omega)
  · by_cases e:j=n+1+r
    · rw [if_pos e] at hf
      rcases L.foots k i hf with e | e | e
      · exact .inr (K.grn k e)
      · exact .inr (.inr (by omega))
      · exact K.gfn k 0 e
    · rw [if_neg e] at hf
      exact K.new j h1 (by omega) k i hf
  · rcases L.rows k hr with e | e
    · exact K.grn k e
    · exact .inr (by omega)
  · rcases L.foots k i hf with e | e | e
    · exact .inr (K.grn k e)
    · exact .inr (.inr (by omega))
    · exact K.gfn k 0 e
end
theorem WI.marks {x x0 x1:World} {W:Nat} {psv:Value} {lead:Bool} {gh:Option Nat} {n cap:Nat} {H:Nat→HG} {h:HG} (w:WI x W psv lead gh n cap H)
    (hap:∀ j,j < n→∀ k i,(H j).foot k i→k≠h.p∧¬ h.rows k) (hpW:h.p≠W) (hpg:gh≠some h.p) (hr:∀ k,h.rows k→k≠W∧gh≠some k)
    (t0:Touch (fun k=>k=h.p) x x0) (ex:x0.heap.size=x.heap.size) (t1:Touch h.rows x0 x1):WI x1 W psv lead gh n cap H:=by
  have cell01:∀ k i,k < x.heap.size→k≠h.p→¬ h.rows k→x1.cell? ⟨k,i,none⟩=x.cell? ⟨k,i,none⟩:=fun k i hk n1 n2 =>
    (World.cell?_of_block (t1.block k (by omega) n2)).trans (World.cell?_of_block (t0.block k hk n1))
  have t01:Touch (fun k=>k=h.p∨h.rows k) x x1:=(t0.mono (fun _ _ e=>.inl e)).trans t1 (fun _ _ e=>.inr e)
  exact w.touch t01 (fun e=>e.elim (fun e=>hpW e.symm) (fun e=>(hr W e).1 rfl)) (fun k e t=>t.elim (fun e'=>hpg (by rw [← e'];exact e)) (fun e'=>(hr k e').2 e))
    (fun j hj k i hf=>cell01 k i ((w.is j hj).foot_lt hf) (hap j hj k i hf).1 (hap j hj k i hf).2)
theorem KInv.first {x x0 x1 y3 y4:World} {W:Nat} {psv:Value} {lead:Bool} {gh:Option Nat} {n cap:Nat} {H:Nat→HG} {h:HG} {q:Nat→Nat} (w:WI x W psv lead gh n cap H)
    (hap:∀ j,j < n→∀ k i,(H j).foot k i→k≠h.p∧¬ h.rows k) (hpW:h.p≠W) (hpg:gh≠some h.p) (hr:∀ k,h.rows k→k≠W∧gh≠some k)
    (c0:Cur x0 { h with m:=n+1 }) (t0:Touch (fun k=>k=h.p) x x0) (ex:x0.heap.size=x.heap.size)
    (c1:Cur x1 { h with m:=n+1,q:=q }) (i1:HoldIs x1 { h with m:=n+1,q:=q }) (hq:∀ j,j < h.on→x0.heap.size≤q j) (t1:Touch h.rows x0 x1)
    (hs:n+1≤100000000∧h.bn≤100000000∧h.ln≤100000000∧h.on≤100000000)
    {o:Obj} {k4 c4:Nat} (a:AppPost (x1.alloc o) y3 124 1 gh n 1 [.pointer (some ⟨h.p,0,none⟩)] k4 c4) (hz:y4=y3.setCell ⟨W,1,none⟩ (.slice (some ⟨k4,0,none⟩) (n+1) c4)) :
    KInv x W psv lead gh n H h 0 y4 (some k4) c4 (fun j=>if j=n then { h with m:=n+1,q:=q } else H j) { h with m:=n+1,q:=q }:=by
  have cell01:∀ k i,k < x.heap.size→k≠h.p→¬ h.rows k→x1.cell? ⟨k,i,none⟩=x.cell? ⟨k,i,none⟩:=fun k i hk n1 n2 =>
    (World.cell?_of_block (t1.block k (by omega) n2)).trans (World.cell?_of_block (t0.block k hk n1))
  have t01:Touch (fun k=>k=h.p∨h.rows k) x x1:=(t0.mono (fun _ _ e=>.inl e)).trans t1 (fun _ _ e=>.inr e)
  have w1:WI x1 W psv lead gh n cap H:=w.touch t01 (fun e=>e.elim (fun e=>hpW e.symm) (fun e=>(hr W e).1 rfl)) (fun k e t=>t.elim (fun e'=>hpg (by rw [← e'];exact e)) (fun e'=>(hr k e').2 e))
    (fun j hj k i hf=>cell01 k i ((w.is j hj).foot_lt hf) (hap j hj k i hf).1 (hap j hj k i hf).2)
  have hqn:∀ j,j < h.on→x.heap.size≤q j:=fun j hj=>by have:=hq j hj;omega
  have rl:∀ k,h.rows k→k < x.heap.size:=fun k e=>by have:=Cur.rows_lt (g:={ h with m:=n+1 }) c0 (k:=k) e;omega
  have hWx:W < x.heap.size:=heap_lt w.wb
  have hgx:∀ k,gh=some k→k < x.heap.size:=fun k e=>w.ow.lt e
  have gf:∀ k i,HG.foot { h with m:=n+1,q:=q } k i→k≠W∧gh≠some k:=fun k i hf=>by
    rcases hf with e | ⟨e,_⟩ | ⟨e,_⟩ | ⟨e,_⟩ | ⟨j,hj,e⟩
    · dsimp only at e;rw [e];exact ⟨hpW,hpg⟩
    · exact hr k (.inl e)
    · exact hr k (.inr (.inl e))
    · exact hr k (.inr (.inr e))
    · dsimp only at e hj;have:=hqn j hj;exact ⟨by omega,fun e'=>by have:=hgx k e';omega⟩
  have qok:HG.qok { h with m:=n+1,q:=q }:=fun j hj hrw=>by
    have h1:=rl _ hrw
    have:=hqn j hj
    dsimp only at h1
    omega
  obtain ⟨q1,q2,q3,q4,q5⟩:=w1.push c1 i1 hs gf hr a hz
  have s1:=t01.size
  refine ⟨q1,fun j hj=>by rw [if_neg (by omega)],q2,q3,qok,rfl,rfl,rfl,rfl,fun j hj k i hf=>?_,fun k i hf=>?_,fun k hrw=>?_,?_,fun k e=>?_,fun j h1 h2 k i hf=>?_,fun k e=>.inl e,fun k i hf=>?_⟩
  · by_cases e:j=n
    · rw [if_pos e] at hf
      exact foot_apart c1 qok k i hf
    · rw [if_neg e] at hf
      have:=(hap j (by omega) k i hf).2
      exact ⟨fun q=>this (.inl q.1),fun q=>this (.inr (.inl q.1)),fun q=>this (.inr (.inr q.1))⟩
  · refine ⟨(gf k i hf).1,fun e=>?_⟩
    have e:=Option.some.inj e
    subst e
    rcases q5 with q | q
    · exact (gf _ i hf).2 q
    · have:=i1.foot_lt hf;omega
  · refine ⟨(hr k hrw).1,fun e=>?_⟩
    have e:=Option.some.inj e
    subst e
    rcases q5 with q | q
    · exact (hr _ hrw).2 q
    · have:=rl _ hrw;omega
  · exact (t01.mono (fun _ _ e=>e.elim (fun e=>.inr (.inr (.inl e))) (fun e=>.inr (.inr (.inr e))))).trans q4 (fun _ _ e=>e.elim .inl (fun e=>.inr (.inl e)))
  · have e:=Option.some.inj e
    subst e
    rcases q5 with q | q
    · exact .inl q
    · exact .inr (by omega)
  · have e:j=n:=by omega
    rw [if_pos e] at hf
    rcases hf with e | ⟨e,_⟩ | ⟨e,_⟩ | ⟨e,_⟩ | ⟨j,hj,e⟩
    · exact .inl e
    · exact .inr (.inl (.inl e))
    · exact .inr (.inl (.inr (.inl e)))
    · exact .inr (.inl (.inr (.inr e)))
    · dsimp only at e hj;have:=hqn j hj;exact .inr (.inr (by omega))
  · rcases hf with e | ⟨e,_⟩ | ⟨e,_⟩ | ⟨e,_⟩ | ⟨j,hj,e⟩
    · exact .inl e
    · exact .inr (.inl (.inl e))
    · exact .inr (.inl (.inr (.inl e)))
    · exact .inr (.inl (.inr (.inr e)))
    · dsimp only at e hj;have:=hqn j hj;exact .inr (.inr (by omega))
end
section
open Go.RowKit
section
variable {P:Program} (w:World)
theorem run_appK (t ty:TypeId) (e:TypeId) (i:TypeInfo) (z:Value) (size bytes:Nat) (ht:P.underlying t=some (.slice e)) (hi:P.info? e=some i) (hz:i.zero=some z)
    (hsize:i.size=size) (hby:i.bytes=bytes) (hzs:z.cells.size=size)
    (b:Option Nat) (n c:Nat) (hown:OwnRow w e size b n c)
    (ad:Addr) (m cc:Nat) (news:List Value) (hl:news.length=m * size) (hnews:∀ j u,news[j]?=some u→w.cell? (ad.add j)=some u) (h1:∀ u ∈ news,u.oneCell'=true)
    (hm:0 < m) (hbytes:(n+m) * bytes≤140737488355328) (h63:n+m≤140737488355328) :
    ∃ g c' w',(Builtin.append_ #[t,t] ty #[sl b n c,.slice (some ad) m cc]).run P w=.ok (.slice (some ⟨g,0,none⟩) (n+m) c') w'∧AppPost w w' e size b n m news g c'∧OwnRow w' e size b n c:=by
  obtain ⟨g,c',w',hr,hP⟩:=run_app (P:=P) w t ty e i z size bytes ht hi hz hsize hby hzs b n c hown ad m cc news hl hnews h1 hm hbytes h63
  refine ⟨g,c',w',hr,hP,?_⟩
  subst hsize
  rcases hown with ⟨rfl,rfl,rfl⟩ | ⟨g0,cur,rfl,hg,hcs,hnc,hcm⟩
  · exact .inl ⟨rfl,rfl,rfl⟩
  · by_cases hroom:n+m≤c
    · have hns:n * i.size+news.length=(n+m) * i.size:=by rw [hl,← Nat.add_mul]
      have hfit:n * i.size+news.length≤cur.size:=by rw [hns,hcs];exact Nat.mul_le_mul_right _ hroom
      have h2:=run_append_room (P:=P) w t ty e i ht hi g0 n c cur hg ad m cc news hl hnews h1 hroom hfit
      have h3:=h2.symm.trans hr
      simp only [Result.ok.injEq,Value.slice.injEq,Option.some.injEq,Addr.mk.injEq] at h3
      obtain ⟨⟨⟨e1,_⟩,_,e2⟩,_⟩:=h3
      subst e1
      subst e2
      rcases hP.own with ⟨h,_⟩ | ⟨g1,cur1,h,q1,q2,q3,q4⟩
      · cases h
      · cases h;exact .inr ⟨_,cur1,rfl,q1,q2,hnc,q4⟩
    · subst hby
      have hxl:(cur.toList.take (n * i.size)).length=n * i.size:=by
        rw [List.length_take,Array.length_toList,hcs];have:=Nat.mul_le_mul_right i.size hnc;omega
      have holds:∀ j u,(cur.toList.take (n * i.size))[j]?=some u→w.cell? ((⟨g0,0,none⟩:Addr).add j)=some u:=fun j u hu=>by
        have hj:j < n * i.size:=by
          rcases Nat.lt_or_ge j (n * i.size) with h | h
          · exact h
          · rw [List.getElem?_eq_none (by omega)] at hu;cases hu
        rw [addr_add,Nat.zero_add,cell_of_heap hg]
        rw [List.getElem?_take_of_lt hj,Array.getElem?_toList] at hu
        exact hu
      have h2:=run_append_grow (P:=P) w t ty e i z ht hi hz ⟨g0,0,none⟩ n c _ hxl holds ad m cc news hl hnews (by omega) (by omega) (growslice_fits (by omega) hbytes)
      have h3:=h2.symm.trans hr
      simp only [Result.ok.injEq] at h3
      rw [← h3.2]
      exact OwnRow.touch (T:=fun _=>False) (.inr ⟨g0,cur,rfl,hg,hcs,hnc,hcm⟩) (((Touch.refl _ w).drew).alloc _) (fun _ _ h=>h)
theorem wpList_appK {ops:Array Oper} {rest:List Oper} {o:Oper} {a:Act} {Q:Exit→Act→World→Prop} (hgd:o.guard=none) (s x:Operand) (t:TypeId)
    (ho:o.op=.call { callee:=.builtin .append,args:=#[s,x],argTypes:=#[t,t] })
    (e:TypeId) (i:TypeInfo) (z:Value) (size bytes:Nat) (ht:P.underlying t=some (.slice e)) (hi:P.info? e=some i) (hz:i.zero=some z)
    (hsize:i.size=size) (hby:i.bytes=bytes) (hzs:z.cells.size=size)
    (b:Option Nat) (n c:Nat) (hs:a.eval s=sl b n c) (hown:OwnRow w e size b n c)
    (ad:Addr) (m cc:Nat) (news:List Value) (hx:a.eval x=.slice (some ad) m cc) (hl:news.length=m * size) (hnews:∀ j u,news[j]?=some u→w.cell? (ad.add j)=some u) (h1:∀ u ∈ news,u.oneCell'=true)
    (hm:0 < m) (hbytes:(n+m) * bytes≤140737488355328) (h63:n+m≤140737488355328)
    (h:∀ g c' w',AppPost w w' e size b n m news g c'→OwnRow w' e size b n c→wpList P ops Q rest (a.put o.dst (.slice (some ⟨g,0,none⟩) (n+m) c')) w'):wpList P ops Q (o :: rest) a w:=by
  refine wpList_plain hgd fun _ hK=>?_
  obtain ⟨g,c',w',hr,h2,h3⟩:=run_appK (P:=P) w t o.type e i z size bytes ht hi hz hsize hby hzs b n c hown ad m cc news hl hnews h1 hm hbytes h63
  unfold Oper.wp execOp
  simp only [ho,resolve,invoke,builtin,Sem.run_bind,Sem.run_pure,Result.andThen_ok,List.map_toArray,List.map_cons,List.map_nil,hs,hx,hr]
  exact hK _ _ (h g c' w' h2 h3)
end
end
end Go.Proofs.YtolififimldmlaaGreat
