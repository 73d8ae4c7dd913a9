import Derived.Test.YtolififimldmlaaGreatPart38
import Derived.Test.YtolififimldmlaaGreatPart26
import Derived.Test.YtolififimldmlaaGreatPart11
set_option linter.unusedVariables false
set_option linter.unusedSimpArgs false
set_option maxRecDepth 100000
set_option maxHeartbeats 16000000
namespace Go.Proofs.YtolififimldmlaaGreat
section
open Go.RowKit
attribute [local go_sem ↓] Go.wp_at_zero Go.wp_at_succ
theorem ba_eq {a b:ByteArray} (h:a.data.toList=b.data.toList):a=b:=by
  have:=str_val h
  cases this
  rfl
theorem record_any (l:List UInt8) (w:World) (hn:l.length≤100000):Calls Tryz.prog 182 #[.string ⟨l.toArray⟩] w fun e w'=>e=.returned (.string ⟨(recBytes l).toArray⟩)∧Below w.heap.size w w':=by
  have hconv:=conv1'
  have HC:=hid (fun (s:ByteArray) z (hs:s=⟨(byteOf (l.length:Int) :: l).toArray⟩)=>checked_at s _ z (by simp;omega) hs)
  have hnl:¬ 9223372036854775807 < 1+l.length:=by omega
  unfold recBytes
  go_enter Tryz.func182,Tryz.ntmps182
  go_wp2_with fail
  refine (HC.out _ _ ?_).mono ?_
  · refine ba_eq ?_
    rw [ByteArray.data_append,Array.toList_append,byteOf_nat]
    rfl
  rintro e w1 ⟨rfl,hb⟩
  go_wp2
  go_ret
  exact ⟨rfl,((Below.refl _ w).alloc (Nat.le_refl _) _).trans (hb.mono (by simp))⟩
def RV.cleared (v:RV):RV:={ v with os:=[],sg:=none,sc:=0 }
section
variable (v:RV) (B:Nat) (w:World) (h:v.At w B)
include h
theorem refHolding (tk:Int) (ho:v.os.length≤1000) (b:List UInt8) (hb:packS ⟨3,v.me,v.m.view,v.m.ls.length,0,0,Ln.zero,[]⟩=b):Calls Tryz.prog 179 #[.pointer (some ⟨B,0,none⟩),.int .i64 tk] w (SentRet w B v ⟨false,tk,b⟩):=by
  have HS:Hid (∀ z,v.At z B→Calls Tryz.prog 107 #[.pointer (some ⟨B,0,none⟩),.int .i64 tk,.agg #[.int .i64 3,.int .i64 0,.int .i64 v.m.view,.int .i64 v.m.ls.length,.int .i64 0,.int .i64 0,.int .i64 0,.int .i64 0,.string ⟨#[]⟩,.slice none 0 0]] z (SentRet z B v ⟨false,tk,b⟩)):=fun z hz =>
    refSend v B z hz tk ⟨3,0,v.m.view,v.m.ls.length,0,0,Ln.zero,[]⟩ none 0 (fun j hj=>absurd hj (Nat.not_lt_zero _)) (Nat.zero_le _) (Nat.le_refl _) ho b hb
  have HV:=hid h
  have c7:w.cell? ⟨B,7,none⟩=some (.int .i64 v.m.view):=cell_of_heap h.blk 7
  have c9:w.cell? ⟨B,9,none⟩=some (.slice (v.g.map fun k=>⟨k,0,none⟩) v.m.ls.length v.c):=cell_of_heap h.blk 9
  have HX:Hid (∀ y,SentRet w.drew B v ⟨false,tk,b⟩ (.returned (.tuple #[])) y→SentRet w B v ⟨false,tk,b⟩ (.returned (.tuple #[])) y):=fun y hh=>by
    obtain ⟨h1,g,c,h2⟩:=hh
    exact ⟨h1,g,c,RChg.of ((Below.refl _ w).drew) HV.out h2⟩
  generalize hQ:SentRet w B v ⟨false,tk,b⟩=Q at *
  clear h hb hQ
  go_enter Tryz.func179,Tryz.ntmps179
  go_wp2
  go_still_tail 14,(by kernel_rfl)
  go_wp2_with fail
  refine (HS.out _ (HV.out.below ((Below.refl _ w).drew))).mono ?_
  rintro e y ⟨rfl,g,c,hch⟩
  have HCH:=hid hch
  clear hch
  go_wp2
  go_end0
  exact HX.out _ ⟨rfl,g,c,HCH.out⟩
theorem RV.At.clear:RChg w (w.setCell ⟨B,48,none⟩ (.slice none 0 0)) B v v.cleared∧OwnOutsR (w.setCell ⟨B,48,none⟩ (.slice none 0 0)) v.sg v.sc v.os:=by
  have t:Touch (fun k=>k=B) w (w.setCell ⟨B,48,none⟩ (.slice none 0 0)):=(Touch.refl (fun k=>k=B) w).setCell (p:=⟨B,48,none⟩) (fun _=>rfl) _
  have hb:=heap_setCell h.blk 48 (.slice none 0 0)
  have hc:v.cells.setIfInBounds 48 (.slice none 0 0)=v.cleared.cells:=by
    unfold RV.cells RV.cleared
    simp only [List.setIfInBounds_toArray,List.set_cons_zero,List.set_cons_succ,List.length_nil,Option.map_none]
  rw [hc] at hb
  refine ⟨⟨⟨hb,h.ls.touch' t (fun hn k e e2=>h.gK hn (by rw [e,e2])),h.lc,OwnOutsR.none_ _,h.gK,(fun _ k e=>by cases e)⟩,t.mono (fun i _ e=>.inl e),(fun k e=>by cases e),.inl rfl⟩,h.so.touch t (fun k e e2=>h.sK (by rw [e,e2]))⟩
theorem refDone:Calls Tryz.prog 103 #[.pointer (some ⟨B,0,none⟩)] w fun e w'=>e=.returned (.tuple #[if v.dead then .slice none 0 0 else .slice (v.sg.map fun k=>⟨k,0,none⟩) v.os.length v.sc,.int .i64 (if v.dead then 4 else 0)])∧RChg w w' B v v.cleared∧OwnOutsR w' v.sg v.sc v.os:=by
  have HCL:=hid (RV.At.clear v B w h)
  have c48:w.cell? ⟨B,48,none⟩=some (.slice (v.sg.map fun k=>⟨k,0,none⟩) v.os.length v.sc):=cell_of_heap h.blk 48
  have f48:w.frozen? ⟨B,48,none⟩=false:=frozen_of_heap h.blk 48
  have c5:w.cell? ⟨B,5,none⟩=some (.bool v.dead):=cell_of_heap h.blk 5
  clear h
  cases hd:v.dead
  · rw [hd] at c5
    simp only [Bool.false_eq_true,if_false]
    go_enter Tryz.func103,Tryz.ntmps103
    go_wp2
    go_ret2
    exact ⟨rfl,HCL.out⟩
  · rw [hd] at c5
    simp only [if_true]
    go_enter Tryz.func103,Tryz.ntmps103
    go_wp2
    go_ret2
    exact ⟨rfl,HCL.out⟩
theorem refWriteFail (hd:v.dead=false) (ha:v.arm=1) (l:List UInt8) (hn:l.length≤1000):Calls Tryz.prog 158 #[.pointer (some ⟨B,0,none⟩),.string ⟨l.toArray⟩] w fun e w'=>e=.returned (.bool false)∧RChg w w' B v { v with dead:=true,lost:=recBytes l }:=by
  have HV:=hid h
  have c5:w.cell? ⟨B,5,none⟩=some (.bool false):=by rw [← hd];exact cell_of_heap h.blk 5
  have HR:=hid (record_any l w (by omega))
  clear h
  go_enter Tryz.func158,Tryz.ntmps158
  go_wp2_with fail
  refine HR.out.mono ?_
  rintro e X ⟨rfl,hb⟩
  have HB:=hid hb
  have HVX:=hid (HV.out.below hb)
  clear hb c5
  have x4:X.cell? ⟨B,4,none⟩=some (.int .i64 1):=by rw [← ha];exact cell_of_heap HVX.out.blk 4
  have x5:X.cell? ⟨B,5,none⟩=some (.bool v.dead):=cell_of_heap HVX.out.blk 5
  have x6:X.cell? ⟨B,6,none⟩=some (.string ⟨v.lost.toArray⟩):=cell_of_heap HVX.out.blk 6
  have fx:∀ j,X.frozen? ⟨B,j,none⟩=false:=fun j=>frozen_of_heap HVX.out.blk j
  have H1:Hid (RChg X (X.setCell ⟨B,5,none⟩ (.bool true)) B v { v with dead:=true }):=HVX.out.cellChg (by unfold RV.cells;simp only [List.setIfInBounds_toArray,List.set_cons_zero,List.set_cons_succ]) ⟨rfl,rfl,rfl,rfl,rfl,rfl⟩
  have H2:Hid (RChg X ((X.setCell ⟨B,5,none⟩ (.bool true)).setCell ⟨B,6,none⟩ (.string ⟨(recBytes l).toArray⟩)) B v { v with dead:=true,lost:=recBytes l }):=H1.out.trans (H1.out.at_.cellChg (by unfold RV.cells;simp only [List.setIfInBounds_toArray,List.set_cons_zero,List.set_cons_succ]) ⟨rfl,rfl,rfl,rfl,rfl,rfl⟩)
  go_wp2
  go_ret
  exact ⟨rfl,RChg.of HB.out HV.out H2.out⟩
theorem refWriteOk (hd:v.dead=false) (narm:Int) (ha:(v.arm=0∧narm=0)∨(2≤v.arm∧v.arm≤9223372036854775807∧narm=v.arm - 1)) (l:List UInt8) (hn:l.length≤1000) (hdl:v.d.length≤9900000):Calls Tryz.prog 158 #[.pointer (some ⟨B,0,none⟩),.string ⟨l.toArray⟩] w fun e w'=>e=.returned (.bool true)∧RChg w w' B v { v with d:=v.d++recBytes l,arm:=narm }:=by
  have HV:=hid h
  have c5:w.cell? ⟨B,5,none⟩=some (.bool false):=by rw [← hd];exact cell_of_heap h.blk 5
  have HR:=hid (record_any l w (by omega))
  have hrl:(recBytes l).length≤1100:=by unfold recBytes withChk;simp;omega
  have HCAT:Hid ((⟨v.d.toArray⟩++⟨(recBytes l).toArray⟩:ByteArray)=⟨(v.d++recBytes l).toArray⟩):=ba_eq (by rw [ByteArray.data_append,Array.toList_append])
  clear h
  generalize recBytes l=r at *
  go_enter Tryz.func158,Tryz.ntmps158
  go_wp2_with fail
  refine HR.out.mono ?_
  rintro e X ⟨rfl,hb⟩
  have HB:=hid hb
  have HVX:=hid (HV.out.below hb)
  clear hb c5
  have hnl:¬ 9223372036854775807 < v.d.length+r.length:=by omega
  have x3:X.cell? ⟨B,3,none⟩=some (.string ⟨v.d.toArray⟩):=cell_of_heap HVX.out.blk 3
  have fx:∀ j,X.frozen? ⟨B,j,none⟩=false:=fun j=>frozen_of_heap HVX.out.blk j
  have key:∀ (u:RV) (z:World),u.At z B→u.d=v.d→RChg z (z.setCell ⟨B,3,none⟩ (.string (⟨v.d.toArray⟩++⟨r.toArray⟩))) B u { u with d:=v.d++r }:=fun u z hu he=>by
    rw [HCAT.out]
    exact hu.cellChg (by unfold RV.cells;simp only [List.setIfInBounds_toArray,List.set_cons_zero,List.set_cons_succ]) ⟨rfl,rfl,rfl,rfl,rfl,rfl⟩
  rcases ha with ⟨ha0,rfl⟩ | ⟨ha2,ha3,rfl⟩
  · have x4:X.cell? ⟨B,4,none⟩=some (.int .i64 0):=by rw [← ha0];exact cell_of_heap HVX.out.blk 4
    have H2:Hid (RChg X (X.setCell ⟨B,3,none⟩ (.string (⟨v.d.toArray⟩++⟨r.toArray⟩))) B v { v with d:=v.d++r,arm:=0 }):=by
      have:=key v X HVX.out rfl
      have e:({ v with d:=v.d++r }:RV)={ v with d:=v.d++r,arm:=0 }:=by rw [← ha0]
      rw [e] at this
      exact this
    clear key
    go_wp2
    go_ret
    exact ⟨rfl,RChg.of HB.out HV.out H2.out⟩
  · have x4:X.cell? ⟨B,4,none⟩=some (.int .i64 v.arm):=cell_of_heap HVX.out.blk 4
    have H1:Hid (RChg X (X.setCell ⟨B,4,none⟩ (.int .i64 (v.arm - 1))) B v { v with arm:=v.arm - 1 }):=HVX.out.cellChg (by unfold RV.cells;simp only [List.setIfInBounds_toArray,List.set_cons_zero,List.set_cons_succ]) ⟨rfl,rfl,rfl,rfl,rfl,rfl⟩
    have H2:Hid (RChg X ((X.setCell ⟨B,4,none⟩ (.int .i64 (v.arm - 1))).setCell ⟨B,3,none⟩ (.string (⟨v.d.toArray⟩++⟨r.toArray⟩))) B v { v with d:=v.d++r,arm:=v.arm - 1 }):=H1.out.trans (key _ _ H1.out.at_ rfl)
    have w1:IntKind.i64.wrap (v.arm - 1)=v.arm - 1:=by rw [IntWalk.i64_left,IntWalk.wrap64_in _ (by omega)]
    have b1:v.arm≠1:=by omega
    have b2:1 < v.arm:=by omega
    clear key
    go_wp2
    go_ret
    exact ⟨rfl,RChg.of HB.out HV.out H2.out⟩
end
theorem RChg.keepB {x y:World} {B Q:Nat} {v u:RV} {cur:Array Value} {e':TypeId} {f:Nat × Nat} (h:RChg x y B v u) (hv:v.At x B) (hQ:x.heap[Q]?=some (.cells cur e' f)) (n1:185≠e') (n2:190≠e'):y.heap[Q]?=some (.cells cur e' f) :=
  h.tch.heapAt hQ (fun e=>by
    rcases e with e | e
    · subst e
      have h1:=hv.blk
      rw [h1] at hQ
      simp at hQ
      exact n1 hQ.2.1
    · exact RowT.ne hv.so.own hQ n2 e)
theorem RV.At.setL {v:RV} {w w0:World} {B g c n:Nat} {m:Mm} (h:v.At w B) (ho:OwnLines w0 w (some g) c m.ls) (hn:m.ls.length=n) (hv:m.view=v.m.view∧m.last=v.m.last) :
    ({ v with m:=m,g:=some g,c:=c }:RV).At (w.setCell ⟨B,9,none⟩ (.slice (some ⟨g,0,none⟩) n c)) B∧Touch (fun k=>k=B∨v.sg=some k) w (w.setCell ⟨B,9,none⟩ (.slice (some ⟨g,0,none⟩) n c)):=by
  have t:Touch (fun k=>k=B) w (w.setCell ⟨B,9,none⟩ (.slice (some ⟨g,0,none⟩) n c)):=(Touch.refl (fun k=>k=B) w).setCell (p:=⟨B,9,none⟩) (fun _=>rfl) _
  have hb:=heap_setCell h.blk 9 (.slice (some ⟨g,0,none⟩) n c)
  have hc:v.cells.setIfInBounds 9 (.slice (some ⟨g,0,none⟩) n c)=({ v with m:=m,g:=some g,c:=c }:RV).cells:=by
    unfold RV.cells
    simp only [List.setIfInBounds_toArray,List.set_cons_zero,List.set_cons_succ,Option.map_some,hv.1,hv.2,hn]
  rw [hc] at hb
  have gB:some g≠some B:=RowT.ne ho.own h.blk (by decide)
  have gs:∀ k,v.sg=some k→some g≠some k:=fun k e e2=>by
    rcases h.so.own with ⟨e3,_⟩ | ⟨q,cur,e3,hq,_⟩
    · rw [e3] at e;cases e
    · rw [e3] at e
      cases e
      exact RowT.ne ho.own hq (by decide) e2
  have hl:=OwnLines.setOther ho B 9 (.slice (some ⟨g,0,none⟩) n c) gB
  exact ⟨⟨hb,hl.at_,hl.cap,h.so.touch t (fun k e e2=>h.sK (by rw [e,e2])),fun _=>gB,fun _ k e=>gs k e⟩,t.mono (fun i _ e=>.inl e)⟩
def RV.more (v:RV) (l:Ln) (narm:Int) (g c:Nat):RV:={ v with d:=v.d++recBytes (1 :: lineBytes l),arm:=narm,m:=⟨v.m.view,v.m.last,v.m.ls++[l]⟩,g:=some g,c:=c }
section
variable (v:RV) (B:Nat) (w:World) (h:v.At w B)
include h
theorem refMoreFail (hd:v.dead=false) (ha:v.arm=1) (l:Ln) (hls:l.s.length≤8):Calls Tryz.prog 151 #[.pointer (some ⟨B,0,none⟩),.agg #[.int .i64 l.c,.int .i64 l.t,.string ⟨l.s.toArray⟩]] w fun e w'=>e=.returned (.bool false)∧RChg w w' B v { v with dead:=true,lost:=recBytes (1 :: lineBytes l) }:=by
  have hll:(lineBytes l).length≤11:=by unfold lineBytes;simp;omega
  have HT:=hid (fun z=>lineText_any l z (by omega))
  have HW:Hid (∀ (s:ByteArray) z,s=⟨(1 :: lineBytes l).toArray⟩→v.At z B→Calls Tryz.prog 158 #[.pointer (some ⟨B,0,none⟩),.string s] z fun e w'=>e=.returned (.bool false)∧RChg z w' B v { v with dead:=true,lost:=recBytes (1 :: lineBytes l) }):=fun s z hs hz=>by
    subst hs
    exact refWriteFail v B z hz hd ha _ (by simp;omega)
  have HV:=hid h
  have hnl:¬ 9223372036854775807 < 1+(lineBytes l).length:=by omega
  have HBS:Hid ((⟨#[1]⟩++⟨(lineBytes l).toArray⟩:ByteArray)=⟨(1 :: lineBytes l).toArray⟩):=ba_eq (by rw [ByteArray.data_append,Array.toList_append];rfl)
  clear h
  generalize lineBytes l=lb at *
  go_enter Tryz.func151,Tryz.ntmps151
  go_wp2_with fail
  refine (HT.out _).mono ?_
  rintro e X1 ⟨rfl,hb1⟩
  have HB1:Hid (Below w.heap.size w X1):=((Below.refl _ w).alloc (Nat.le_refl _) _).trans (hb1.mono (by simp))
  clear hb1
  go_wp2_with fail
  refine (HW.out _ _ HBS.out (HV.out.below HB1.out)).mono ?_
  rintro e X2 ⟨rfl,hch⟩
  have HCH:=hid (RChg.of HB1.out HV.out hch)
  clear hch
  go_wp2
  go_ret
  exact ⟨rfl,HCH.out⟩
theorem refMoreOk (hd:v.dead=false) (narm:Int) (ha:(v.arm=0∧narm=0)∨(2≤v.arm∧v.arm≤9223372036854775807∧narm=v.arm - 1)) (hdl:v.d.length≤9900000) (hlen:v.m.ls.length≤1000) (l:Ln) (hls:l.s.length≤8):Calls Tryz.prog 151 #[.pointer (some ⟨B,0,none⟩),.agg #[.int .i64 l.c,.int .i64 l.t,.string ⟨l.s.toArray⟩]] w fun e w'=>e=.returned (.bool true)∧∃ g c,RChg w w' B v (v.more l narm g c):=by
  obtain ⟨il,hil,hil0,hil1,hil2⟩:=info_parts Tryz.info27
  have hll:(lineBytes l).length≤11:=by unfold lineBytes;simp;omega
  have HT:=hid (fun z=>lineText_any l z (by omega))
  have HW:Hid (∀ (s:ByteArray) z,s=⟨(1 :: lineBytes l).toArray⟩→v.At z B→Calls Tryz.prog 158 #[.pointer (some ⟨B,0,none⟩),.string s] z fun e w'=>e=.returned (.bool true)∧RChg z w' B v { v with d:=v.d++recBytes (1 :: lineBytes l),arm:=narm }):=fun s z hs hz=>by
    subst hs
    exact refWriteOk v B z hz hd narm ha _ (by simp;omega) hdl
  have HV:=hid h
  have hnl:¬ 9223372036854775807 < 1+(lineBytes l).length:=by omega
  have HBS:Hid ((⟨#[1]⟩++⟨(lineBytes l).toArray⟩:ByteArray)=⟨(1 :: lineBytes l).toArray⟩):=ba_eq (by rw [ByteArray.data_append,Array.toList_append];rfl)
  unfold RV.more
  clear h hd ha
  generalize lineBytes l=lb at *
  generalize recBytes (1 :: lb)=rb at *
  go_enter Tryz.func151,Tryz.ntmps151
  go_wp2_with fail
  refine (HT.out _).mono ?_
  rintro e X1 ⟨rfl,hb1⟩
  have HB1:Hid (Below w.heap.size w X1):=((Below.refl _ w).alloc (Nat.le_refl _) _).trans (hb1.mono (by simp))
  have HM1:Hid (MBox w.heap.size 27 (.int .i64 l.c) (.int .i64 l.t) (.string ⟨l.s.toArray⟩) X1):=(hb1.block _ (by simp)).trans (heap_alloc_new w _)
  clear hb1
  go_wp2_with fail
  refine (HW.out _ _ HBS.out (HV.out.below HB1.out)).mono ?_
  rintro e X2 ⟨rfl,hch⟩
  have HM2:=hid (hch.keepB (HV.out.below HB1.out) HM1.out (by decide) (by decide))
  have HCH:=hid (RChg.of HB1.out HV.out hch)
  clear hch HM1 HT HW
  have HU:=hid HCH.out.at_
  have x9:X2.cell? ⟨B,9,none⟩=some (.slice (v.g.map fun k=>⟨k,0,none⟩) v.m.ls.length v.c):=cell_of_heap HU.out.blk 9
  have HSRC:=hid (lines_src (v.g.map fun k=>(⟨k,0,none⟩:Addr)) v.c v.m.ls X2 HU.out.ls)
  have HNN:Hid (v.m.ls.length * 32≤140737488355328∧v.m.ls.length≤140737488355328):=⟨by omega,by omega⟩
  go_wp2_with (at_builtin;refine wpList_appN _ rfl (.tmp 15) (.tmp 20) 28 28 rfl 27 il (.agg #[.int .i64 0,.int .i64 0,.string ⟨#[]⟩]) 3 32 Tryz.underlying28 hil hil0 hil1 hil2 rfl rfl _ rfl v.m.ls.length (lnCells v.m.ls) HSRC.out HNN.out.1 HNN.out.2 ?_)
  intro gb cb X3 NP
  have HOL:=hid NP.lines
  have hb23:=NP.below
  have HM3:=hid ((hb23.block _ (heap_lt HM2.out)).trans HM2.out)
  have HB23:=hid hb23
  clear NP hb23 x9
  generalize hk:v.m.ls.length=k at *
  have HK:=hid hk
  clear hk
  have HOL4:=hid (HOL.out.below ((Below.refl _ X3).alloc (Nat.le_refl _) (.cells #[.int .i64 l.c,.int .i64 l.t,.string ⟨l.s.toArray⟩] 27)))
  have HB24:=hid (HB23.out.alloc HB23.out.size (.cells #[.int .i64 l.c,.int .i64 l.t,.string ⟨l.s.toArray⟩] 27))
  have HOW:Hid (OwnRow (X3.alloc (.cells #[.int .i64 l.c,.int .i64 l.t,.string ⟨l.s.toArray⟩] 27)) 27 3 gb k cb):=by have:=HOL4.out.own;rw [HK.out] at this;exact this
  obtain ⟨m0,m1,m2,fm⟩:=mbox_cells HM3.out
  unfold sl
  go_wp2_with (at_builtin;refine wpList_app _ rfl (.tmp 23) (.tmp 25) 28 rfl 27 il (.agg #[.int .i64 0,.int .i64 0,.string ⟨#[]⟩]) 3 32 Tryz.underlying28 hil hil0 hil1 hil2 rfl gb k cb (by rfl) HOW.out ⟨X3.heap.size,0,none⟩ 1 1 [.int .i64 l.c,.int .i64 l.t,.string ⟨l.s.toArray⟩] rfl rfl ?c1 ?c2 (by omega) (by omega) (by omega) ?_)
  case c1=>exact World.news_of_block (heap_alloc_new X3 _)
  case c2=>intro u hu;simp at hu;rcases hu with rfl | rfl | rfl <;> rfl
  intro g' c' X5 Q
  have HO5:=hid (HOL4.out.app' HB24.out HK.out Q)
  clear Q m0 m1 m2 fm
  have HU5:=hid (HU.out.below HO5.out.2)
  have HSL:=hid (HU5.out.setL (m:=⟨v.m.view,v.m.last,v.m.ls++[l]⟩) HO5.out.1 (by rw [List.length_append,HK.out];rfl:(v.m.ls++[l]).length=k+1) ⟨rfl,rfl⟩)
  have y9:X5.cell? ⟨B,9,none⟩=some (.slice (v.g.map fun k=>⟨k,0,none⟩) v.m.ls.length v.c):=cell_of_heap HU5.out.blk 9
  have fy:X5.frozen? ⟨B,9,none⟩=false:=frozen_of_heap HU5.out.blk 9
  go_wp2
  go_ret
  refine ⟨rfl,g',c',HSL.out.1,(HCH.out.tch.trans (Touch.of_belowAll HO5.out.2 (fun _=>False)) (fun _ _ e=>e.elim)).trans HSL.out.2 (fun i hi e=>e),fun k e=>HCH.out.sn k e,.inr (fun k e=>?_)⟩
  have e:some g'=some k:=e
  exact Nat.le_trans HCH.out.tch.size (HO5.out.1.new k e)
end
theorem RV.At.blkChg {v u:RV} {w w':World} {B:Nat} (h:v.At w B) (t:Touch (fun k=>k=B) w w') (hb:w'.heap[B]?=some (.cells u.cells 185 (0,0))) (hd:u.m.ls=v.m.ls∧u.os=v.os∧u.g=v.g∧u.c=v.c∧u.sg=v.sg∧u.sc=v.sc):RChg w w' B v u:=by
  obtain ⟨e1,e2,e3,e4,e5,e6⟩:=hd
  refine ⟨⟨hb,?_,?_,?_,?_,?_⟩,t.mono (fun i _ e=>.inl e),fun k e=>.inl (by rw [← e5];exact e),.inl e3⟩
  · rw [e1,e3];exact h.ls.touch' t (fun hn k e e2=>h.gK hn (by rw [e,e2]))
  · rw [e1,e4];exact h.lc
  · rw [e2,e5,e6];exact h.so.touch t (fun k e e2=>h.sK (by rw [e,e2]))
  · rw [e1,e3];exact h.gK
  · rw [e1,e3,e5];exact h.gS
structure RMov (w w':World) (B:Nat) (v v':RV):Prop where
  at_:v'.At w' B
  tch:Touch (fun k=>k=B∨v.sg=some k) w w'
  sn:∀ k,v'.sg=some k→v.sg=some k∨w.heap.size≤k
theorem RChg.mov {w w':World} {B:Nat} {v v':RV} (h:RChg w w' B v v'):RMov w w' B v v':=⟨h.at_,h.tch,h.sn⟩
theorem RMov.trans {w x y:World} {B:Nat} {v u t:RV} (h:RMov w x B v u) (k:RMov x y B u t):RMov w y B v t :=
  ⟨k.at_,h.tch.trans k.tch (fun i hi e=>by
    rcases e with e | e
    · exact .inl e
    · rcases h.sn i e with e | e
      · exact .inr e
      · omega),fun i e=>by
    rcases k.sn i e with e | e
    · exact h.sn i e
    · exact .inr (Nat.le_trans h.tch.size e)⟩
theorem RV.At.setM {v:RV} {w w0:World} {B c n:Nat} {g:Option Nat} {ls:List Ln} (h:v.At w B) (ho:OwnLines w0 w g c ls) (hn:ls.length=n) :
    RMov w (((w.setCell ⟨B,7,none⟩ (.int .i64 0)).setCell ⟨B,8,none⟩ (.int .i64 0)).setCell ⟨B,9,none⟩ (.slice (g.map fun k=>⟨k,0,none⟩) n c)) B v { v with m:=⟨0,0,ls⟩,g:=g,c:=c }:=by
  subst hn
  have t:Touch (fun k=>k=B) w (((w.setCell ⟨B,7,none⟩ (.int .i64 0)).setCell ⟨B,8,none⟩ (.int .i64 0)).setCell ⟨B,9,none⟩ (.slice (g.map fun k=>⟨k,0,none⟩) ls.length c)):=(((Touch.refl (fun k=>k=B) w).setCell (p:=⟨B,7,none⟩) (fun _=>rfl) _).setCell (p:=⟨B,8,none⟩) (fun _=>rfl) _).setCell (p:=⟨B,9,none⟩) (fun _=>rfl) _
  have hb:=heap_setCell (heap_setCell (heap_setCell h.blk 7 (.int .i64 0)) 8 (.int .i64 0)) 9 (.slice (g.map fun k=>⟨k,0,none⟩) ls.length c)
  have hc:((v.cells.setIfInBounds 7 (.int .i64 0)).setIfInBounds 8 (.int .i64 0)).setIfInBounds 9 (.slice (g.map fun k=>⟨k,0,none⟩) ls.length c)=({ v with m:=⟨0,0,ls⟩,g:=g,c:=c }:RV).cells:=by
    unfold RV.cells
    simp only [List.setIfInBounds_toArray,List.set_cons_zero,List.set_cons_succ]
  rw [hc] at hb
  have gB:g≠some B:=RowT.ne ho.own h.blk (by decide)
  have gs:∀ k,v.sg=some k→g≠some k:=fun k e e2=>by
    rcases h.so.own with ⟨e3,_⟩ | ⟨q,cur,e3,hq,_⟩
    · rw [e3] at e;cases e
    · rw [e3] at e
      cases e
      exact RowT.ne ho.own hq (by decide) e2
  have hl:=OwnLines.setOther (OwnLines.setOther (OwnLines.setOther ho B 7 (.int .i64 0) gB) B 8 (.int .i64 0) gB) B 9 (.slice (g.map fun k=>⟨k,0,none⟩) ls.length c) gB
  exact ⟨⟨hb,hl.at_,hl.cap,h.so.touch t (fun k e e2=>h.sK (by rw [e,e2])),fun _=>gB,fun _ k e=>gs k e⟩,t.mono (fun i _ e=>.inl e),fun k e=>.inl e⟩
theorem RV.At.noHolds {v:RV} {w:World} {B:Nat} (h:v.At w B):RChg w (((((w.setCell ⟨B,11,none⟩ (.int .i64 0)).setCell ⟨B,12,none⟩ (.int .i64 0)).setCell ⟨B,13,none⟩ (.int .i64 0)).setCell ⟨B,14,none⟩ (.int .i64 0)).setCell ⟨B,15,none⟩ (.int .i64 0)) B v { v with hs:=fun _=>0 } :=
  h.blkChg ((((((Touch.refl (fun k=>k=B) w).setCell (p:=⟨B,11,none⟩) (fun _=>rfl) (.int .i64 0)).setCell (p:=⟨B,12,none⟩) (fun _=>rfl) (.int .i64 0)).setCell (p:=⟨B,13,none⟩) (fun _=>rfl) (.int .i64 0)).setCell (p:=⟨B,14,none⟩) (fun _=>rfl) (.int .i64 0)).setCell (p:=⟨B,15,none⟩) (fun _=>rfl) (.int .i64 0)) (by
    have hb:=(heap_setCell (heap_setCell (heap_setCell (heap_setCell (heap_setCell h.blk 11 (.int .i64 0)) 12 (.int .i64 0)) 13 (.int .i64 0)) 14 (.int .i64 0)) 15 (.int .i64 0))
    unfold RV.cells at hb
    simp only [List.setIfInBounds_toArray,List.set_cons_zero,List.set_cons_succ] at hb
    exact hb) ⟨rfl,rfl,rfl,rfl,rfl,rfl⟩
section
variable (v:RV) (B:Nat) (w:World) (h:v.At w B)
include h
theorem refForget:Calls Tryz.prog 159 #[.pointer (some ⟨B,0,none⟩)] w fun e w'=>e=.returned (.tuple #[])∧RChg w w' B v v:=by
  have x16:w.cell? ⟨B,16,none⟩=some (.bool false):=cell_of_heap h.blk 16
  have x17:w.cell? ⟨B,17,none⟩=some (.bool false):=cell_of_heap h.blk 17
  have x18:w.cell? ⟨B,18,none⟩=some (.bool false):=cell_of_heap h.blk 18
  have x19:w.cell? ⟨B,19,none⟩=some (.bool false):=cell_of_heap h.blk 19
  have x20:w.cell? ⟨B,20,none⟩=some (.bool false):=cell_of_heap h.blk 20
  have x21:w.cell? ⟨B,21,none⟩=some (.bool false):=cell_of_heap h.blk 21
  have x22:w.cell? ⟨B,22,none⟩=some (.bool false):=cell_of_heap h.blk 22
  have x23:w.cell? ⟨B,23,none⟩=some (.bool false):=cell_of_heap h.blk 23
  have x24:w.cell? ⟨B,24,none⟩=some (.bool false):=cell_of_heap h.blk 24
  have x25:w.cell? ⟨B,25,none⟩=some (.bool false):=cell_of_heap h.blk 25
  have x46:w.cell? ⟨B,46,none⟩=some (.bool false):=cell_of_heap h.blk 46
  have fx:∀ j,w.frozen? ⟨B,j,none⟩=false:=fun j=>frozen_of_heap h.blk j
  have H:Hid (RChg w (((((((((((w.setCell ⟨B,16,none⟩ (.bool false)).setCell ⟨B,17,none⟩ (.bool false)).setCell ⟨B,18,none⟩ (.bool false)).setCell ⟨B,19,none⟩ (.bool false)).setCell ⟨B,20,none⟩ (.bool false)).setCell ⟨B,21,none⟩ (.bool false)).setCell ⟨B,22,none⟩ (.bool false)).setCell ⟨B,23,none⟩ (.bool false)).setCell ⟨B,24,none⟩ (.bool false)).setCell ⟨B,25,none⟩ (.bool false)).setCell ⟨B,46,none⟩ (.bool false)) B v v):=h.blkChg ((((((((((((Touch.refl (fun k=>k=B) w).setCell (p:=⟨B,16,none⟩) (fun _=>rfl) (.bool false)).setCell (p:=⟨B,17,none⟩) (fun _=>rfl) (.bool false)).setCell (p:=⟨B,18,none⟩) (fun _=>rfl) (.bool false)).setCell (p:=⟨B,19,none⟩) (fun _=>rfl) (.bool false)).setCell (p:=⟨B,20,none⟩) (fun _=>rfl) (.bool false)).setCell (p:=⟨B,21,none⟩) (fun _=>rfl) (.bool false)).setCell (p:=⟨B,22,none⟩) (fun _=>rfl) (.bool false)).setCell (p:=⟨B,23,none⟩) (fun _=>rfl) (.bool false)).setCell (p:=⟨B,24,none⟩) (fun _=>rfl) (.bool false)).setCell (p:=⟨B,25,none⟩) (fun _=>rfl) (.bool false)).setCell (p:=⟨B,46,none⟩) (fun _=>rfl) (.bool false)) (by
    have hb:=(heap_setCell (heap_setCell (heap_setCell (heap_setCell (heap_setCell (heap_setCell (heap_setCell (heap_setCell (heap_setCell (heap_setCell (heap_setCell h.blk 16 (.bool false)) 17 (.bool false)) 18 (.bool false)) 19 (.bool false)) 20 (.bool false)) 21 (.bool false)) 22 (.bool false)) 23 (.bool false)) 24 (.bool false)) 25 (.bool false)) 46 (.bool false))
    unfold RV.cells at hb
    simp only [List.setIfInBounds_toArray,List.set_cons_zero,List.set_cons_succ] at hb
    exact hb) ⟨rfl,rfl,rfl,rfl,rfl,rfl⟩
  clear h
  go_enter Tryz.func159,Tryz.ntmps159
  go_wp2
  go_end0
  exact ⟨rfl,H.out⟩
end
def RV.took (v:RV) (ls:List Ln) (narm:Int) (g:Option Nat) (c:Nat):RV:={ v with d:=v.d++recBytes (3 :: 0 :: linesBytes ls),arm:=narm,m:=⟨0,0,ls⟩,g:=g,c:=c,hs:=fun _=>0 }
section
variable (v:RV) (B:Nat) (w:World) (h:v.At w B)
include h
theorem refTakeFail (hd:v.dead=false) (ha:v.arm=1) (w0:World) (g:Option Nat) (c:Nat) (ls:List Ln) (ho:OwnLines w0 w g c ls) (h20:ls.length≤20) (hs:∀ l ∈ ls,l.s.length≤8) (hbl:(linesBytes ls).length≤300):Calls Tryz.prog 181 #[.pointer (some ⟨B,0,none⟩),.int .i64 0,.slice (g.map fun k=>⟨k,0,none⟩) ls.length c] w fun e w'=>e=.returned (.bool false)∧RChg w w' B v { v with dead:=true,lost:=recBytes (3 :: 0 :: linesBytes ls) }:=by
  have HT:Hid (∀ z,Below w.heap.size w z→Calls Tryz.prog 95 #[.slice (g.map fun k=>⟨k,0,none⟩) ls.length c] z fun e w'=>e=.returned (.string ⟨(linesBytes ls).toArray⟩)∧Below z.heap.size z w'):=fun z hz=>linesText_any _ c ls z (ho.at_.below hz) (by omega) hs
  have HW:Hid (∀ (s:ByteArray) z,s=⟨(3 :: 0 :: linesBytes ls).toArray⟩→v.At z B→Calls Tryz.prog 158 #[.pointer (some ⟨B,0,none⟩),.string s] z fun e w'=>e=.returned (.bool false)∧RChg z w' B v { v with dead:=true,lost:=recBytes (3 :: 0 :: linesBytes ls) }):=fun s z hs hz=>by
    subst hs
    exact refWriteFail v B z hz hd ha _ (by simp;omega)
  have HV:=hid h
  have hconv:=conv2
  have hnl:¬ 9223372036854775807 < 2+(linesBytes ls).length:=by omega
  have HBS:Hid ((⟨[3,0].toArray⟩++⟨(linesBytes ls).toArray⟩:ByteArray)=⟨(3 :: 0 :: linesBytes ls).toArray⟩):=ba_eq (by rw [ByteArray.data_append,Array.toList_append];rfl)
  clear h hd ha hs ho
  generalize linesBytes ls=lb at *
  generalize recBytes (3 :: 0 :: lb)=rb at *
  go_enter Tryz.func181,Tryz.ntmps181
  go_wp2_with fail
  refine (HT.out _ (Below.refl _ _)).mono ?_
  rintro e X1 ⟨rfl,hb1⟩
  have HB1:=hid (hb1.alloc hb1.size (.cells #[.int .u8 3,.int .u8 0] 5))
  clear hb1
  go_wp2_with fail
  refine (HW.out _ _ HBS.out (HV.out.below HB1.out)).mono ?_
  rintro e X2 ⟨rfl,hch⟩
  have HCH:=hid (RChg.of HB1.out HV.out hch)
  clear hch
  go_wp2
  go_ret
  exact ⟨rfl,HCH.out⟩
theorem refTakeOk (hd:v.dead=false) (narm:Int) (ha:(v.arm=0∧narm=0)∨(2≤v.arm∧v.arm≤9223372036854775807∧narm=v.arm - 1)) (hdl:v.d.length≤9900000) (w0:World) (g:Option Nat) (c:Nat) (ls:List Ln) (ho:OwnLines w0 w g c ls) (h20:ls.length≤20) (hs:∀ l ∈ ls,l.s.length≤8) (hbl:(linesBytes ls).length≤300) (hag:v.ag≤ls.length):Calls Tryz.prog 181 #[.pointer (some ⟨B,0,none⟩),.int .i64 0,.slice (g.map fun k=>⟨k,0,none⟩) ls.length c] w fun e w'=>e=.returned (.bool true)∧RMov w w' B v (v.took ls narm g c):=by
  have HT:Hid (∀ z,Below w.heap.size w z→Calls Tryz.prog 95 #[.slice (g.map fun k=>⟨k,0,none⟩) ls.length c] z fun e w'=>e=.returned (.string ⟨(linesBytes ls).toArray⟩)∧Below z.heap.size z w'):=fun z hz=>linesText_any _ c ls z (ho.at_.below hz) (by omega) hs
  have HW:Hid (∀ (s:ByteArray) z,s=⟨(3 :: 0 :: linesBytes ls).toArray⟩→v.At z B→Calls Tryz.prog 158 #[.pointer (some ⟨B,0,none⟩),.string s] z fun e w'=>e=.returned (.bool true)∧RChg z w' B v { v with d:=v.d++recBytes (3 :: 0 :: linesBytes ls),arm:=narm }):=fun s z hs hz=>by
    subst hs
    exact refWriteOk v B z hz hd narm ha _ (by simp;omega) hdl
  have HV:=hid h
  have hconv:=conv2
  have hnl:¬ 9223372036854775807 < 2+(linesBytes ls).length:=by omega
  have HBS:Hid ((⟨[3,0].toArray⟩++⟨(linesBytes ls).toArray⟩:ByteArray)=⟨(3 :: 0 :: linesBytes ls).toArray⟩):=ba_eq (by rw [ByteArray.data_append,Array.toList_append];rfl)
  have HO:=hid ho
  unfold RV.took
  clear h hd ha hs ho
  generalize linesBytes ls=lb at *
  generalize recBytes (3 :: 0 :: lb)=rb at *
  go_enter Tryz.func181,Tryz.ntmps181
  go_wp2_with fail
  refine (HT.out _ (Below.refl _ _)).mono ?_
  rintro e X1 ⟨rfl,hb1⟩
  have HB1:=hid (hb1.alloc hb1.size (.cells #[.int .u8 3,.int .u8 0] 5))
  clear hb1
  go_wp2_with fail
  refine (HW.out _ _ HBS.out (HV.out.below HB1.out)).mono ?_
  rintro e X2 ⟨rfl,hch⟩
  have HO1:=hid (HO.out.below HB1.out)
  have HO2:Hid (OwnLines w0 X2 g c ls):=by
    have hv1:=HV.out.below HB1.out
    have hn:∀ k,g=some k→¬ (k=B∨v.sg=some k):=fun k e e2=>by
      rcases e2 with e2 | e2
      · exact RowT.ne HO1.out.own hv1.blk (by decide) (by rw [e,e2])
      · rcases hv1.so.own with ⟨e3,_⟩ | ⟨q,cur,e3,hq,_⟩
        · rw [e3] at e2;cases e2
        · rw [e3] at e2
          cases e2
          exact RowT.ne HO1.out.own hq (by decide) e
    exact ⟨HO1.out.at_.touch hch.tch (fun q e=>by
      cases hg:g with
      | none=>rw [hg] at e;cases e
      | some g0=>rw [hg] at e;cases e;exact hn g0 hg),HO1.out.own.touch hch.tch hn,HO1.out.new⟩
  have HCH:=hid (RChg.of HB1.out HV.out hch)
  clear hch HO1 HO
  have HU:=hid HCH.out.at_
  have HM:=hid (HU.out.setM HO2.out rfl)
  have x7:X2.cell? ⟨B,7,none⟩=some (.int .i64 v.m.view):=cell_of_heap HU.out.blk 7
  have x8:X2.cell? ⟨B,8,none⟩=some (.int .i64 v.m.last):=cell_of_heap HU.out.blk 8
  have x9:X2.cell? ⟨B,9,none⟩=some (.slice (v.g.map fun k=>⟨k,0,none⟩) v.m.ls.length v.c):=cell_of_heap HU.out.blk 9
  have x10:X2.cell? ⟨B,10,none⟩=some (.int .i64 v.ag):=cell_of_heap HU.out.blk 10
  have fx:∀ j,X2.frozen? ⟨B,j,none⟩=false:=fun j=>frozen_of_heap HU.out.blk j
  have b1:¬ ((ls.length:Int) < (v.ag:Int)):=by omega
  go_wp2_with fail
  refine (refForget _ B _ HM.out.at_).mono ?_
  rintro e X3 ⟨rfl,hf⟩
  have HF:=hid hf
  clear hf x7 x8 x9 x10 fx
  have HN:=hid (HF.out.at_.noHolds)
  have y11:X3.cell? ⟨B,11,none⟩=some (.int .i64 (v.hs 0)):=cell_of_heap HF.out.at_.blk 11
  have y12:X3.cell? ⟨B,12,none⟩=some (.int .i64 (v.hs 1)):=cell_of_heap HF.out.at_.blk 12
  have y13:X3.cell? ⟨B,13,none⟩=some (.int .i64 (v.hs 2)):=cell_of_heap HF.out.at_.blk 13
  have y14:X3.cell? ⟨B,14,none⟩=some (.int .i64 (v.hs 3)):=cell_of_heap HF.out.at_.blk 14
  have y15:X3.cell? ⟨B,15,none⟩=some (.int .i64 (v.hs 4)):=cell_of_heap HF.out.at_.blk 15
  have fy:∀ j,X3.frozen? ⟨B,j,none⟩=false:=fun j=>frozen_of_heap HF.out.at_.blk j
  go_wp2
  go_ret
  exact ⟨rfl,((HCH.out.mov.trans HM.out).trans HF.out.mov).trans HN.out.mov⟩
end
end
end Go.Proofs.YtolififimldmlaaGreat
