import Derived.Test.YtolififimldmlaaGreatPart25
set_option linter.unusedVariables false
set_option linter.unusedSimpArgs false
set_option maxRecDepth 100000
set_option maxHeartbeats 16000000
namespace Go.Proofs.YtolififimldmlaaGreat
section
open Go.RowKit
attribute [local go_sem ↓] Go.wp_at_zero Go.wp_at_succ
theorem Box.drew {B:Nat} {v0 v1 v2 v3 v4 v5 v6 v7 v8 v9:Value} {X:World} (h:Box B v0 v1 v2 v3 v4 v5 v6 v7 v8 v9 X):Box B v0 v1 v2 v3 v4 v5 v6 v7 v8 v9 X.drew:=h
theorem beginRet {Q:Ending→World→Prop} {a:Act} {W:World} {B:Nat} {v0 v1 v2 v3 v4 v5 v6 v7 v8 v9:Value} (hB:Box B v0 v1 v2 v3 v4 v5 v6 v7 v8 v9 W)
    (ht:a.tmps[2]?=some (.pointer (some ⟨B,0,none⟩))) (hd:a.defers=[]) (hq:Q (.returned (.agg #[v0,v1,v2,v3,v4,v5,v6,v7,v8,v9])) W):bodyPost Tryz.prog Tryz.f152 Q Exit.ret a W:=by
  obtain ⟨c0,c1,c2,c3,c4,c5,c6,c7,c8,c9⟩:=box_cells hB
  exact bodyPost_ret (v:=.agg #[v0,v1,v2,v3,v4,v5,v6,v7,v8,v9]) (by simp [results,Tryz.results152,go_sem,ht,c0,c1,c2,c3,c4,c5,c6,c7,c8,c9]) hd hq
theorem prepareRet {Q:Ending→World→Prop} {a:Act} {W:World} {B:Nat} {v0 v1 v2 v3 v4 v5 v6 v7 v8 v9:Value} (hB:Box B v0 v1 v2 v3 v4 v5 v6 v7 v8 v9 W)
    (ht:a.tmps[4]?=some (.pointer (some ⟨B,0,none⟩))) (hd:a.defers=[]) (hq:Q (.returned (.agg #[v0,v1,v2,v3,v4,v5,v6,v7,v8,v9])) W):bodyPost Tryz.prog Tryz.f108 Q Exit.ret a W:=by
  obtain ⟨c0,c1,c2,c3,c4,c5,c6,c7,c8,c9⟩:=box_cells hB
  exact bodyPost_ret (v:=.agg #[v0,v1,v2,v3,v4,v5,v6,v7,v8,v9]) (by simp [results,Tryz.results108,go_sem,ht,c0,c1,c2,c3,c4,c5,c6,c7,c8,c9]) hd hq
section
variable (v:RV) (K:Nat) (w:World) (h:v.At w K)
include h
theorem refBegin:Calls Tryz.prog 152 #[.pointer (some ⟨K,0,none⟩)] w fun e w'=>e=.returned (.agg #[.int .i64 7,.int .i64 0,.int .i64 v.m.view,.int .i64 0,.int .i64 v.ag,.int .i64 0,.int .i64 0,.int .i64 0,.string ⟨#[]⟩,.slice (v.g.map fun k=>⟨k,0,none⟩) v.m.ls.length v.c])∧Below w.heap.size w w':=by
  have hlt:=h.lt
  have HN:=hid (heap_alloc_new w (.cells #[.int .i64 0,.int .i64 0,.int .i64 0,.int .i64 0,.int .i64 0,.int .i64 0,.int .i64 0,.int .i64 0,.string ⟨#[]⟩,.slice none 0 0] 30))
  have HB:=hid ((Below.refl _ w).alloc (Nat.le_refl _) (.cells #[.int .i64 0,.int .i64 0,.int .i64 0,.int .i64 0,.int .i64 0,.int .i64 0,.int .i64 0,.int .i64 0,.string ⟨#[]⟩,.slice none 0 0] 30))
  have HA:=hid (h.below HB.out)
  clear h
  go_enter Tryz.func152,Tryz.ntmps152
  go_wp2
  generalize w.alloc (.cells #[.int .i64 0,.int .i64 0,.int .i64 0,.int .i64 0,.int .i64 0,.int .i64 0,.int .i64 0,.int .i64 0,.string ⟨#[]⟩,.slice none 0 0] 30)=Y at *
  have c7:Y.cell? ⟨K,7,none⟩=some (.int .i64 v.m.view):=cell_of_heap HA.out.blk 7
  have c9:Y.cell? ⟨K,9,none⟩=some (.slice (v.g.map fun k=>⟨k,0,none⟩) v.m.ls.length v.c):=cell_of_heap HA.out.blk 9
  have c10:Y.cell? ⟨K,10,none⟩=some (.int .i64 v.ag):=cell_of_heap HA.out.blk 10
  obtain ⟨r0,r1,r2,r3,r4,r5,r6,r7,r8,r9⟩:=box_cells HN.out
  have hfR:∀ j,Y.frozen? ⟨w.heap.size,j,none⟩=false:=fun j=>frozen_of_heap HN.out j
  go_still_tail 15,(by kernel_rfl)
  go_wp2
  exact beginRet (Box.drew (set10 HN.out rfl _ _ _ _ _ _ _ _ _ _)) rfl rfl ⟨rfl,(below10 HB.out (Nat.le_refl _) _ _ _ _ _ _ _ _ _ _).drew⟩
theorem refPrepare (p:Nat) (h1:p < v.m.ls.length) (h20:v.m.ls.length≤1000) (ln:Ln) (hln:v.m.ls[p]=ln):Calls Tryz.prog 108 #[.pointer (some ⟨K,0,none⟩),.int .i64 (p+1:Nat)] w fun e w'=>e=.returned (.agg #[.int .i64 2,.int .i64 0,.int .i64 v.m.view,.int .i64 (p+1:Nat),.int .i64 v.ag,.int .i64 0,.int .i64 ln.c,.int .i64 ln.t,.string ⟨ln.s.toArray⟩,.slice none 0 0])∧Below w.heap.size w w':=by
  have hlt:=h.lt
  have HLN:=hid hln
  clear hln
  have HN:=hid (heap_alloc_new w (.cells #[.int .i64 0,.int .i64 0,.int .i64 0,.int .i64 0,.int .i64 0,.int .i64 0,.int .i64 0,.int .i64 0,.string ⟨#[]⟩,.slice none 0 0] 30))
  have HB:=hid ((Below.refl _ w).alloc (Nat.le_refl _) (.cells #[.int .i64 0,.int .i64 0,.int .i64 0,.int .i64 0,.int .i64 0,.int .i64 0,.int .i64 0,.int .i64 0,.string ⟨#[]⟩,.slice none 0 0] 30))
  have HA:=hid (h.below HB.out)
  clear h
  go_enter Tryz.func108,Tryz.ntmps108
  go_wp2
  generalize w.alloc (.cells #[.int .i64 0,.int .i64 0,.int .i64 0,.int .i64 0,.int .i64 0,.int .i64 0,.int .i64 0,.int .i64 0,.string ⟨#[]⟩,.slice none 0 0] 30)=Y at *
  have c7:Y.cell? ⟨K,7,none⟩=some (.int .i64 v.m.view):=cell_of_heap HA.out.blk 7
  have c9:Y.cell? ⟨K,9,none⟩=some (.slice (v.g.map fun k=>⟨k,0,none⟩) v.m.ls.length v.c):=cell_of_heap HA.out.blk 9
  have c10:Y.cell? ⟨K,10,none⟩=some (.int .i64 v.ag):=cell_of_heap HA.out.blk 10
  obtain ⟨q,o,eq,l0,l1,l2⟩:=HA.out.ls p h1
  rw [eq] at c9
  obtain ⟨r0,r1,r2,r3,r4,r5,r6,r7,r8,r9⟩:=box_cells HN.out
  have hfR:∀ j,Y.frozen? ⟨w.heap.size,j,none⟩=false:=fun j=>frozen_of_heap HN.out j
  have w1:IntKind.i64.wrap (p:Int)=(p:Int):=by rw [IntWalk.i64_left,IntWalk.wrap64_in _ (by omega)]
  have b0:(0:Int)≤(p:Int):=by omega
  have b1:(p:Int) < (v.m.ls.length:Int):=by omega
  rw [HLN.out] at l0 l1 l2
  go_still_tail 20,(by kernel_rfl)
  go_wp2
  exact prepareRet (Box.drew (set10 HN.out rfl _ _ _ _ _ _ _ _ _ _)) rfl rfl ⟨rfl,(below10 HB.out (Nat.le_refl _) _ _ _ _ _ _ _ _ _ _).drew⟩
theorem refAgree (n:Nat) (hn:n≤1000) (hl:v.m.ls.length≤1000):Calls Tryz.prog 178 #[.pointer (some ⟨K,0,none⟩),.int .i64 n] w fun e w'=>e=.returned (.tuple #[])∧RChg w w' K v { v with ag:=max v.ag (min n v.m.ls.length) }:=by
  have c9:w.cell? ⟨K,9,none⟩=some (.slice (v.g.map fun k=>⟨k,0,none⟩) v.m.ls.length v.c):=cell_of_heap h.blk 9
  have c10:w.cell? ⟨K,10,none⟩=some (.int .i64 v.ag):=cell_of_heap h.blk 10
  have f10:w.frozen? ⟨K,10,none⟩=false:=frozen_of_heap h.blk 10
  have HS:Hid (∀ m:Nat,RChg w (w.setCell ⟨K,10,none⟩ (.int .i64 m)) K v { v with ag:=m }):=fun m=>h.cellChg (by unfold RV.cells;simp only [List.setIfInBounds_toArray,List.set_cons_zero,List.set_cons_succ]) ⟨rfl,rfl,rfl,rfl,rfl,rfl⟩
  have H0:=hid (RChg.same h (Below.refl _ w))
  clear h
  generalize hL:v.m.ls.length=L at *
  generalize hA:v.ag=A at *
  have HA:Hid (v.ag=A):=hA
  clear hL hA
  rcases Nat.lt_or_ge L n with h1 | h1
  · have h1':(L:Int) < (n:Int):=by omega
    rcases Nat.lt_or_ge A L with h2 | h2
    · have h2':(A:Int) < (L:Int):=by omega
      have he:max A (min n L)=L:=by omega
      rw [he]
      go_enter Tryz.func178,Tryz.ntmps178
      go_wp2
      go_end0
      exact ⟨rfl,HS.out L⟩
    · have h2':¬ (A:Int) < (L:Int):=by omega
      have he:max A (min n L)=A:=by omega
      rw [he]
      go_enter Tryz.func178,Tryz.ntmps178
      go_wp2
      go_end0
      refine ⟨rfl,?_⟩
      rw [← HA.out];exact H0.out
  · have h1':¬ (L:Int) < (n:Int):=by omega
    rcases Nat.lt_or_ge A n with h2 | h2
    · have h2':(A:Int) < (n:Int):=by omega
      have he:max A (min n L)=n:=by omega
      rw [he]
      go_enter Tryz.func178,Tryz.ntmps178
      go_wp2
      go_end0
      exact ⟨rfl,HS.out n⟩
    · have h2':¬ (A:Int) < (n:Int):=by omega
      have he:max A (min n L)=A:=by omega
      rw [he]
      go_enter Tryz.func178,Tryz.ntmps178
      go_wp2
      go_end0
      refine ⟨rfl,?_⟩
      rw [← HA.out];exact H0.out
theorem refArm (n:Int):Calls Tryz.prog 60 #[.pointer (some ⟨K,0,none⟩),.int .i64 n] w fun e w'=>e=.returned (.tuple #[])∧RChg w w' K v { v with arm:=max n 0 }:=by
  have c4:w.cell? ⟨K,4,none⟩=some (.int .i64 v.arm):=cell_of_heap h.blk 4
  have f4:w.frozen? ⟨K,4,none⟩=false:=frozen_of_heap h.blk 4
  have HS:Hid (∀ m:Int,RChg w (w.setCell ⟨K,4,none⟩ (.int .i64 m)) K v { v with arm:=m }):=fun m=>h.cellChg (by unfold RV.cells;simp only [List.setIfInBounds_toArray,List.set_cons_zero,List.set_cons_succ]) ⟨rfl,rfl,rfl,rfl,rfl,rfl⟩
  have HS2:Hid (∀ m:Int,RChg w ((w.setCell ⟨K,4,none⟩ (.int .i64 m)).setCell ⟨K,4,none⟩ (.int .i64 0)) K v { v with arm:=0 }):=fun m=>(HS.out m).trans ((HS.out m).at_.cellChg (by unfold RV.cells;simp only [List.setIfInBounds_toArray,List.set_cons_zero,List.set_cons_succ]) ⟨rfl,rfl,rfl,rfl,rfl,rfl⟩)
  clear h
  rcases Int.lt_or_le n 0 with h1 | h1
  · rw [show max n 0=0 from by omega]
    go_enter Tryz.func60,Tryz.ntmps60
    go_wp2
    go_end0
    exact ⟨rfl,HS2.out n⟩
  · rw [show max n 0=n from by omega]
    have h1':¬ n < 0:=by omega
    go_enter Tryz.func60,Tryz.ntmps60
    go_wp2
    go_end0
    exact ⟨rfl,HS.out n⟩
end
theorem Tryz.info190:(Tryz.prog.info? 190).map (fun i=>(i.zero,i.size,i.bytes))=some (some (.agg #[.bool false,.int .i64 0,.string ⟨#[]⟩]),3,32):=by kernel_rfl
def RV.push (v:RV) (x:OutG) (g c:Nat):RV:={ v with os:=v.os++[x],sg:=some g,sc:=c }
theorem OwnOutsR.app {X w3:World} {b:Option Nat} {c0 g c:Nat} {os:List OutG} {x:OutG} (h:OwnOutsR X b c0 os) (Q:AppPost X w3 190 3 b os.length 1 [.bool x.cl,.int .i64 x.tk,.string ⟨x.b.toArray⟩] g c):OwnOutsR w3 (some g) c (os++[x]):=by
  refine ⟨?_,fun j hj=>⟨g,rfl,?_⟩⟩
  · rw [List.length_append];exact Q.own
  · rw [List.length_append,List.length_singleton] at hj
    by_cases ej:j=os.length
    · subst ej
      have n0:=Q.new 0 (by omega)
      have n1:=Q.new 1 (by omega)
      have n2:=Q.new 2 (by omega)
      simp only [List.getElem_append_right (Nat.le_refl _),Nat.sub_self,List.getElem_singleton]
      exact ⟨by simpa using n0,by simpa using n1,by simpa using n2⟩
    · have hlt:j < os.length:=by omega
      obtain ⟨k,e,h0,h1,h2⟩:=h.at_ j hlt
      rw [List.getElem_append_left hlt,Q.old (j * 3) (by omega) k e,Q.old (j * 3+1) (by omega) k e,Q.old (j * 3+2) (by omega) k e]
      exact ⟨h0,h1,h2⟩
theorem RV.At.push {v:RV} {X w3:World} {K n g c:Nat} {x:OutG} (h:v.At X K) (hn:v.os.length=n) (Q:AppPost X w3 190 3 v.sg n 1 [.bool x.cl,.int .i64 x.tk,.string ⟨x.b.toArray⟩] g c) :
    RChg X (w3.setCell ⟨K,48,none⟩ (.slice (some ⟨g,0,none⟩) (n+1) c)) K v (v.push x g c):=by
  subst hn
  have hK:=h.lt
  have nK:v.sg≠some K:=h.sK
  have gK:g≠K:=fun e=>by
    subst e
    rcases Q.lies with e | e
    · exact nK e
    · omega
  have t:Touch (fun k=>k=K∨v.sg=some k) X (w3.setCell ⟨K,48,none⟩ (.slice (some ⟨g,0,none⟩) (v.os.length+1) c)):=(Q.touch.mono (fun i _ e=>.inr e)).setCell (p:=⟨K,48,none⟩) (fun _=>.inl rfl) _
  have hb:=heap_setCell (Q.touch.heapAt h.blk nK) 48 (.slice (some ⟨g,0,none⟩) (v.os.length+1) c)
  have hc:v.cells.setIfInBounds 48 (.slice (some ⟨g,0,none⟩) (v.os.length+1) c)=(v.push x g c).cells:=by
    unfold RV.cells RV.push
    simp only [List.setIfInBounds_toArray,List.set_cons_zero,List.set_cons_succ,List.length_append,List.length_singleton,Option.map_some]
  rw [hc] at hb
  refine ⟨⟨hb,?_,h.lc,?_,h.gK,fun hn k e=>?_⟩,t,fun k e=>?_,.inl rfl⟩
  · refine h.ls.touch' t (fun hn k e e2=>?_)
    rcases e2 with e2 | e2
    · exact h.gK hn (by rw [e,e2])
    · exact h.gS hn k e2 e
  · exact (h.so.app Q).touch (T:=fun k=>k=K) ((Touch.refl (fun k=>k=K) w3).setCell (p:=⟨K,48,none⟩) (fun _=>rfl) _) (fun k e e2=>gK (by rw [← e2];exact Option.some.inj e))
  · have e:some g=some k:=e
    cases e
    intro e2
    rcases Q.lies with q | q
    · exact h.gS hn g q e2
    · have:=h.ls.rowlt hn g e2;omega
  · have e:some g=some k:=e
    cases e
    exact Q.lies
def SentRet (w:World) (K:Nat) (v:RV) (x:OutG) (e:Ending) (w':World):Prop:=e=.returned (.tuple #[])∧∃ g c,RChg w w' K v (v.push x g c)
section
variable (v:RV) (K:Nat) (w:World) (h:v.At w K)
include h
theorem refSend (tk:Int) (f:Fr) (a:Option Addr) (cap:Nat) (hl:LinesAt w a f.lines) (hn:f.lines.length≤100000000) (hcap:f.lines.length≤cap) (ho:v.os.length≤1000) (b:List UInt8) (hb:packS { f with frm:=v.me }=b) :
    Calls Tryz.prog 107 #[.pointer (some ⟨K,0,none⟩),.int .i64 tk,.agg #[.int .i64 f.kind,.int .i64 f.frm,.int .i64 f.view,.int .i64 f.place,.int .i64 f.agreed,.int .i64 f.last,.int .i64 f.line.c,.int .i64 f.line.t,.string ⟨f.line.s.toArray⟩,.slice a f.lines.length cap]] w (SentRet w K v ⟨false,tk,b⟩):=by
  obtain ⟨io,hio,hio0,hio1,hio2⟩:=info_parts Tryz.info190
  have HP:=hid (fun z hz=>refPack_any { f with frm:=v.me } a cap z hz hn hcap)
  rw [hb] at HP
  unfold Fr.val sla at HP
  dsimp only at HP
  have hlt:=h.lt
  have HL:=hid hl
  have HN:=hid (heap_alloc_new w (.cells #[.int .i64 f.kind,.int .i64 f.frm,.int .i64 f.view,.int .i64 f.place,.int .i64 f.agreed,.int .i64 f.last,.int .i64 f.line.c,.int .i64 f.line.t,.string ⟨f.line.s.toArray⟩,.slice a f.lines.length cap] 30))
  have HB:=hid ((Below.refl _ w).alloc (Nat.le_refl _) (.cells #[.int .i64 f.kind,.int .i64 f.frm,.int .i64 f.view,.int .i64 f.place,.int .i64 f.agreed,.int .i64 f.last,.int .i64 f.line.c,.int .i64 f.line.t,.string ⟨f.line.s.toArray⟩,.slice a f.lines.length cap] 30))
  have HA:=hid (h.below HB.out)
  have HV:=hid h
  have HX:Hid (∀ y g c,RChg w y K v (v.push ⟨false,tk,b⟩ g c)→SentRet w K v ⟨false,tk,b⟩ (.returned (.tuple #[])) y):=fun y g c hh=>⟨rfl,g,c,hh⟩
  generalize SentRet w K v ⟨false,tk,b⟩=Q at *
  clear h hb hl
  go_enter Tryz.func107,Tryz.ntmps107
  have c1:(w.alloc (.cells #[.int .i64 f.kind,.int .i64 f.frm,.int .i64 f.view,.int .i64 f.place,.int .i64 f.agreed,.int .i64 f.last,.int .i64 f.line.c,.int .i64 f.line.t,.string ⟨f.line.s.toArray⟩,.slice a f.lines.length cap] 30)).cell? ⟨K,1,none⟩=some (.int .i64 v.me):=cell_of_heap HA.out.blk 1
  go_wp2_with fail
  refine (HP.out _ (HL.out.alloc _)).mono ?_
  rintro e X2 ⟨rfl,hb2⟩
  rw [World.size_alloc] at hb2
  have hb02:Below w.heap.size w X2:=((Below.refl _ w).alloc (Nat.le_refl _) _).trans (hb2.mono (by omega))
  have HA2:=hid (HV.out.below hb02)
  have HB02:=hid (hb02.alloc hb02.size (.cells #[.bool false,.int .i64 tk,.string ⟨b.toArray⟩] 190))
  have c48:X2.cell? ⟨K,48,none⟩=some (.slice (v.sg.map fun k=>⟨k,0,none⟩) v.os.length v.sc):=cell_of_heap HA2.out.blk 48
  have f48:X2.frozen? ⟨K,48,none⟩=false:=frozen_of_heap HA2.out.blk 48
  have HA3:=hid (HA2.out.below ((Below.refl _ X2).alloc (Nat.le_refl _) (.cells #[.bool false,.int .i64 tk,.string ⟨b.toArray⟩] 190)))
  clear hb2 hb02 c1 HN HB HA HP HL
  generalize hos:v.os.length=n at *
  have HOS:=hid hos
  have HOW:Hid (OwnRow (X2.alloc (.cells #[.bool false,.int .i64 tk,.string ⟨b.toArray⟩] 190)) 190 3 v.sg n v.sc):=by show OwnRow _ _ _ _ _ _;rw [← hos];exact HA3.out.so.own
  clear hos
  go_wp2_with (at_builtin;refine wpList_app _ rfl (.tmp 23) (.tmp 27) 130 rfl 190 io (.agg #[.bool false,.int .i64 0,.string ⟨#[]⟩]) 3 32 Tryz.underlying130 hio hio0 hio1 hio2 rfl v.sg n v.sc (by rfl) HOW.out ⟨X2.heap.size,0,none⟩ 1 1 [.bool false,.int .i64 tk,.string ⟨b.toArray⟩] rfl rfl ?c1 ?c2 (by omega) (by omega) (by omega) ?_)
  case c1=>exact World.news_of_block (heap_alloc_new X2 _)
  case c2=>intro u hu;simp at hu;rcases hu with rfl | rfl | rfl <;> rfl
  intro g c w3 Q
  have HPU:=hid (HA3.out.push (x:=⟨false,tk,b⟩) HOS.out Q)
  have hne:v.sg≠some K:=HA3.out.sK
  have m48:w3.cell? ⟨K,48,none⟩=some (.slice (v.sg.map fun k=>⟨k,0,none⟩) n v.sc):=Q.touch.cell (cell_alloc_keep c48 _) hne
  have fm48:w3.frozen? ⟨K,48,none⟩=false:=frozen_of_heap (Q.touch.heapAt HA3.out.blk hne) 48
  clear Q c48 f48 hne
  go_wp2
  go_end0
  exact HX.out _ g c (RChg.of HB02.out HV.out HPU.out)
end
section
variable (v:RV) (B:Nat) (w:World) (h:v.At w B)
include h
theorem refTell (p:Nat) (h1:p < v.m.ls.length) (h20:v.m.ls.length≤1000) (ln:Ln) (hln:v.m.ls[p]=ln) (ho:v.os.length≤1000) (b:List UInt8) (hb:packS ⟨9,0,v.m.view,(p+1:Nat),0,0,⟨ln.c,ln.t,[]⟩,[]⟩=b) :
    Calls Tryz.prog 150 #[.pointer (some ⟨B,0,none⟩),.int .i64 (p+1:Nat)] w (SentRet w B v ⟨true,ln.c,b⟩):=by
  obtain ⟨io,hio,hio0,hio1,hio2⟩:=info_parts Tryz.info190
  have HP:Hid (∀ z,Calls Tryz.prog 50 #[.agg #[.int .i64 9,.int .i64 0,.int .i64 v.m.view,.int .i64 ((p:Int)+1),.int .i64 0,.int .i64 0,.int .i64 ln.c,.int .i64 ln.t,.string ⟨#[]⟩,.slice none 0 0]] z fun e w'=>∃ er,e=.returned (.tuple #[.string ⟨b.toArray⟩,.int .i64 er])∧Below z.heap.size z w'):=fun z=>by
    have:=refPack_any ⟨9,0,v.m.view,(p+1:Nat),0,0,⟨ln.c,ln.t,[]⟩,[]⟩ none 0 z (fun j hj=>absurd hj (Nat.not_lt_zero _)) (Nat.zero_le _) (Nat.le_refl _)
    rw [hb] at this
    exact this.mono (fun e w' hh=>⟨_,hh.1,hh.2⟩)
  have hlt:=h.lt
  obtain ⟨q,o,eq,l0,l1,l2⟩:=h.ls p h1
  have c9:w.cell? ⟨B,9,none⟩=some (.slice (some ⟨q,o,none⟩) v.m.ls.length v.c):=by rw [← eq];exact cell_of_heap h.blk 9
  rw [hln] at l0 l1 l2
  have HV:=hid h
  have HX:Hid (∀ y g c,RChg w y B v (v.push ⟨true,ln.c,b⟩ g c)→SentRet w B v ⟨true,ln.c,b⟩ (.returned (.tuple #[])) y):=fun y g c hh=>⟨rfl,g,c,hh⟩
  generalize SentRet w B v ⟨true,ln.c,b⟩=Q at *
  have w1:IntKind.i64.wrap (p:Int)=(p:Int):=by rw [IntWalk.i64_left,IntWalk.wrap64_in _ (by omega)]
  have b0:(0:Int)≤(p:Int):=by omega
  have b1:(p:Int) < (v.m.ls.length:Int):=by omega
  clear h hb hln eq
  go_enter Tryz.func150,Tryz.ntmps150
  go_wp2
  have HN:=hid (heap_alloc_new w (.cells #[.int .i64 ln.c,.int .i64 ln.t,.string ⟨ln.s.toArray⟩] 27))
  have HB:=hid ((Below.refl _ w).alloc (Nat.le_refl _) (.cells #[.int .i64 ln.c,.int .i64 ln.t,.string ⟨ln.s.toArray⟩] 27))
  have HA:=hid (HV.out.below HB.out)
  have hs1:w.heap.size < (w.alloc (.cells #[.int .i64 ln.c,.int .i64 ln.t,.string ⟨ln.s.toArray⟩] 27)).heap.size:=heap_lt HN.out
  generalize w.alloc (.cells #[.int .i64 ln.c,.int .i64 ln.t,.string ⟨ln.s.toArray⟩] 27)=X at *
  clear l0 l1 l2 c9 w1 b0 b1
  have Q7:Hid (X.cell? ⟨B,7,none⟩=some (.int .i64 v.m.view)):=cell_of_heap HA.out.blk 7
  have Q0:Hid (X.cell? ⟨w.heap.size,0,none⟩=some (.int .i64 ln.c)):=cell_of_heap HN.out 0
  have Q1:Hid (X.cell? ⟨w.heap.size,1,none⟩=some (.int .i64 ln.t)):=cell_of_heap HN.out 1
  have hS0:(fun z:World=>Below X.heap.size X z∧z.cell? ⟨B,7,none⟩=some (.int .i64 v.m.view)∧z.cell? ⟨w.heap.size,0,none⟩=some (.int .i64 ln.c)∧z.cell? ⟨w.heap.size,1,none⟩=some (.int .i64 ln.t)) X.drew:=⟨(Below.refl _ _).drew,Q7.out,Q0.out,Q1.out⟩
  refine wp_region_held_drew (S:=fun z:World=>Below X.heap.size X z∧z.cell? ⟨B,7,none⟩=some (.int .i64 v.m.view)∧z.cell? ⟨w.heap.size,0,none⟩=some (.int .i64 ln.c)∧z.cell? ⟨w.heap.size,1,none⟩=some (.int .i64 ln.t)) (by kernel_rfl) hS0 (fun hS=>?_)
  clear hS0
  refine tH 0 hS ?_
  try simp only [lA,lB,lC,Act.put,lD,lE,lF]
  refine tH 1 hS ?_
  try simp only [lA,lB,lC,Act.put,lD,lE,lF]
  refine tH 2 hS ?_
  try simp only [lA,lB,lC,Act.put,lD,lE,lF]
  refine tH 3 hS ?_
  try simp only [lA,lB,lC,Act.put,lD,lE,lF]
  refine tH 5 hS ?_
  try simp only [lA,lB,lC,Act.put,lD,lE,lF]
  refine tH 6 hS ?_
  try simp only [lA,lB,lC,Act.put,lD,lE,lF]
  refine tH 8 hS ?_
  try simp only [lA,lB,lC,Act.put,lD,lE,lF]
  refine tH 4 hS ?_ (hy:=by (intro w hw;obtain ⟨_,s0,s1,s2⟩:=hw;go_simp;try with_reducible rfl))
  try simp only [lA,lB,lC,Act.put,lD,lE,lF]
  refine tH 7 hS ?_ (hy:=by (intro w hw;obtain ⟨_,s0,s1,s2⟩:=hw;go_simp;try with_reducible rfl))
  try simp only [lA,lB,lC,Act.put,lD,lE,lF]
  refine tH 9 hS ?_ (hy:=by (intro w hw;obtain ⟨_,s0,s1,s2⟩:=hw;go_simp;try with_reducible rfl))
  try simp only [lA,lB,lC,Act.put,lD,lE,lF]
  refine tH 10 hS ?_
  try simp only [lA,lB,lC,Act.put,lD,lE,lF]
  refine tH 11 hS ?_
  try simp only [lA,lB,lC,Act.put,lD,lE,lF]
  refine wpAnyH_ready (rs:=[12]) (by kernel_rfl) (by simp) ?_
  refine AllReadyH.cons rfl (fun K hK=>?_) AllReadyH.nil
  go_simp
  refine (HP.out _).mono ?_
  rintro e X2 ⟨er,rfl,hb2⟩
  have hb12:=hS.1.trans (hb2.mono hS.1.size)
  refine hK.out _ _ ⟨hb12,(Below.cell hb12 (World.block_lt_of_cell? _ _ Q7.out)).trans Q7.out,(Below.cell hb12 (World.block_lt_of_cell? _ _ Q0.out)).trans Q0.out,(Below.cell hb12 (World.block_lt_of_cell? _ _ Q1.out)).trans Q1.out⟩ (fun hS=>?_)
  clear hK K hb12 hb2
  refine tH 13 hS ?_
  try simp only [lA,lB,lC,Act.put,lD,lE,lF]
  refine tH 14 hS ?_
  try simp only [lA,lB,lC,Act.put,lD,lE,lF]
  refine tH 16 hS ?_
  try simp only [lA,lB,lC,Act.put,lD,lE,lF]
  refine tH 15 hS ?_
  try simp only [lA,lB,lC,Act.put,lD,lE,lF]
  refine tH 17 hS ?_
  try simp only [lA,lB,lC,Act.put,lD,lE,lF]
  refine wpAnyH_done (by kernel_rfl) ?_ _
  have HBX:=hid (HB.out.trans (hS.1.mono HB.out.size))
  have y0':=hS.2.2.1
  clear hS HN HB HA Q7 Q0 Q1 HP
  go_wp2
  refine wp_region_any (by kernel_rfl) ?_
  try (change wpAny _ _ _ _ _ _ _ (World.drew _))
  have HBY:Hid (Below w.heap.size w X2.drew):=HBX.out.drew
  have y0:X2.drew.cell? ⟨w.heap.size,0,none⟩=some (.int .i64 ln.c):=y0'
  clear HBX y0'
  generalize X2.drew=Y at *
  have HA2:=hid (HV.out.below HBY.out)
  have HB02:=hid (HBY.out.alloc HBY.out.size (.cells #[.bool true,.int .i64 ln.c,.string ⟨b.toArray⟩] 190))
  have c48:Y.cell? ⟨B,48,none⟩=some (.slice (v.sg.map fun k=>⟨k,0,none⟩) v.os.length v.sc):=cell_of_heap HA2.out.blk 48
  have HA3:=hid (HA2.out.below ((Below.refl _ Y).alloc (Nat.le_refl _) (.cells #[.bool true,.int .i64 ln.c,.string ⟨b.toArray⟩] 190)))
  generalize hos:v.os.length=n at *
  have HOS:=hid hos
  have HOW:Hid (OwnRow (Y.alloc (.cells #[.bool true,.int .i64 ln.c,.string ⟨b.toArray⟩] 190)) 190 3 v.sg n v.sc):=by show OwnRow _ _ _ _ _ _;rw [← hos];exact HA3.out.so.own
  have HNE:Hid (v.sg≠some B):=HA3.out.sK
  have c48a:(Y.alloc (.cells #[.bool true,.int .i64 ln.c,.string ⟨b.toArray⟩] 190)).cell? ⟨B,48,none⟩=some (.slice (v.sg.map fun k=>⟨k,0,none⟩) n v.sc):=cell_alloc_keep c48 _
  clear hos HA2 HBY
  refine tA 0 ?_
  try simp only [lA,lB,lC,Act.put,lD,lE,lF]
  refine tA 1 ?_
  try simp only [lA,lB,lC,Act.put,lD,lE,lF]
  refine tA 2 ?_
  try simp only [lA,lB,lC,Act.put,lD,lE,lF]
  refine tA 3 ?_
  try simp only [lA,lB,lC,Act.put,lD,lE,lF]
  refine tA 5 ?_
  try simp only [lA,lB,lC,Act.put,lD,lE,lF]
  refine tA 7 ?_
  try simp only [lA,lB,lC,Act.put,lD,lE,lF]
  refine wpAny_ready (rs:=[4,6]) (by kernel_rfl) (by simp) ?_
  refine AllReady.cons rfl (fun KK hKK=>?_) (AllReady.cons rfl (fun KK hKK=>?_) AllReady.nil)
  · go_simp
    refine hKK _ _ ?_
    clear hKK KK
    refine wpAny_ready (rs:=[6]) (by kernel_rfl) (by simp) ?_
    refine AllReady.cons rfl (fun K hK=>?_) AllReady.nil
    go_simp
    refine hK _ _ ?_
    clear hK K
    refine tA 8 ?_
    try simp only [lA,lB,lC,Act.put,lD,lE,lF]
    refine wpAny_ready (rs:=[9]) (by kernel_rfl) (by simp) ?_
    refine AllReady.cons rfl (fun K hK=>?_) AllReady.nil
    go_simp
    refine hK _ _ ?_
    clear hK K
    refine wpAny_ready (rs:=[10]) (by kernel_rfl) (by simp) ?_
    refine AllReady.cons rfl (fun KK hKK=>?_) AllReady.nil
    refine step_app _ rfl (.tmp 36) (.tmp 41) 130 rfl 190 io (.agg #[.bool false,.int .i64 0,.string ⟨#[]⟩]) 3 32 Tryz.underlying130 hio hio0 hio1 hio2 rfl v.sg n v.sc (by rfl) HOW.out ⟨Y.heap.size,0,none⟩ 1 1 [.bool true,.int .i64 ln.c,.string ⟨b.toArray⟩] rfl rfl ?c1 ?c2 (by omega) (by omega) (by omega) ?_
    case c1=>exact World.news_of_block (heap_alloc_new Y _)
    case c2=>intro u hu;simp at hu;rcases hu with rfl | rfl | rfl <;> rfl
    intro g c w3 Q
    have HPU:=hid (HA3.out.push (x:=⟨true,ln.c,b⟩) HOS.out Q)
    have m48:w3.cell? ⟨B,48,none⟩=some (.slice (v.sg.map fun k=>⟨k,0,none⟩) n v.sc):=Q.touch.cell c48a HNE.out
    have fm48:w3.frozen? ⟨B,48,none⟩=false:=frozen_of_heap (Q.touch.heapAt HA3.out.blk HNE.out) 48
    clear Q c48 c48a y0
    refine hKK _ _ ?_
    clear hKK KK
    simp only [Act.put,List.setIfInBounds_toArray,List.set_cons_zero,List.set_cons_succ]
    refine tA 11 ?_
    try simp only [lA,lB,lC,Act.put,lD,lE,lF]
    refine tA 12 ?_
    try simp only [lA,lB,lC,Act.put,lD,lE,lF]
    refine wpAny_ready (rs:=[13]) (by kernel_rfl) (by simp) ?_
    refine AllReady.cons rfl (fun K hK=>?_) AllReady.nil
    go_simp
    refine hK _ _ ?_
    clear hK K
    refine wpAny_done (by kernel_rfl) ?_ _
    go_wp2
    go_end0
    exact HX.out _ g c (RChg.of HB02.out HV.out HPU.out)
  · go_simp
    refine hKK _ _ ?_
    clear hKK KK
    refine tA 8 ?_
    try simp only [lA,lB,lC,Act.put,lD,lE,lF]
    refine wpAny_ready (rs:=[4,9]) (by kernel_rfl) (by simp) ?_
    refine AllReady.cons rfl (fun KK hKK=>?_) (AllReady.cons rfl (fun KK hKK=>?_) AllReady.nil)
    · go_simp
      refine hKK _ _ ?_
      clear hKK KK
      refine wpAny_ready (rs:=[9]) (by kernel_rfl) (by simp) ?_
      refine AllReady.cons rfl (fun K hK=>?_) AllReady.nil
      go_simp
      refine hK _ _ ?_
      clear hK K
      refine wpAny_ready (rs:=[10]) (by kernel_rfl) (by simp) ?_
      refine AllReady.cons rfl (fun KK hKK=>?_) AllReady.nil
      refine step_app _ rfl (.tmp 36) (.tmp 41) 130 rfl 190 io (.agg #[.bool false,.int .i64 0,.string ⟨#[]⟩]) 3 32 Tryz.underlying130 hio hio0 hio1 hio2 rfl v.sg n v.sc (by rfl) HOW.out ⟨Y.heap.size,0,none⟩ 1 1 [.bool true,.int .i64 ln.c,.string ⟨b.toArray⟩] rfl rfl ?c1 ?c2 (by omega) (by omega) (by omega) ?_
      case c1=>exact World.news_of_block (heap_alloc_new Y _)
      case c2=>intro u hu;simp at hu;rcases hu with rfl | rfl | rfl <;> rfl
      intro g c w3 Q
      have HPU:=hid (HA3.out.push (x:=⟨true,ln.c,b⟩) HOS.out Q)
      have m48:w3.cell? ⟨B,48,none⟩=some (.slice (v.sg.map fun k=>⟨k,0,none⟩) n v.sc):=Q.touch.cell c48a HNE.out
      have fm48:w3.frozen? ⟨B,48,none⟩=false:=frozen_of_heap (Q.touch.heapAt HA3.out.blk HNE.out) 48
      clear Q c48 c48a y0
      refine hKK _ _ ?_
      clear hKK KK
      simp only [Act.put,List.setIfInBounds_toArray,List.set_cons_zero,List.set_cons_succ]
      refine tA 11 ?_
      try simp only [lA,lB,lC,Act.put,lD,lE,lF]
      refine tA 12 ?_
      try simp only [lA,lB,lC,Act.put,lD,lE,lF]
      refine wpAny_ready (rs:=[13]) (by kernel_rfl) (by simp) ?_
      refine AllReady.cons rfl (fun K hK=>?_) AllReady.nil
      go_simp
      refine hK _ _ ?_
      clear hK K
      refine wpAny_done (by kernel_rfl) ?_ _
      go_wp2
      go_end0
      exact HX.out _ g c (RChg.of HB02.out HV.out HPU.out)
    · go_simp
      refine hKK _ _ ?_
      clear hKK KK
      refine wpAny_ready (rs:=[4]) (by kernel_rfl) (by simp) ?_
      refine AllReady.cons rfl (fun K hK=>?_) AllReady.nil
      go_simp
      refine hK _ _ ?_
      clear hK K
      refine wpAny_ready (rs:=[10]) (by kernel_rfl) (by simp) ?_
      refine AllReady.cons rfl (fun KK hKK=>?_) AllReady.nil
      refine step_app _ rfl (.tmp 36) (.tmp 41) 130 rfl 190 io (.agg #[.bool false,.int .i64 0,.string ⟨#[]⟩]) 3 32 Tryz.underlying130 hio hio0 hio1 hio2 rfl v.sg n v.sc (by rfl) HOW.out ⟨Y.heap.size,0,none⟩ 1 1 [.bool true,.int .i64 ln.c,.string ⟨b.toArray⟩] rfl rfl ?c1 ?c2 (by omega) (by omega) (by omega) ?_
      case c1=>exact World.news_of_block (heap_alloc_new Y _)
      case c2=>intro u hu;simp at hu;rcases hu with rfl | rfl | rfl <;> rfl
      intro g c w3 Q
      have HPU:=hid (HA3.out.push (x:=⟨true,ln.c,b⟩) HOS.out Q)
      have m48:w3.cell? ⟨B,48,none⟩=some (.slice (v.sg.map fun k=>⟨k,0,none⟩) n v.sc):=Q.touch.cell c48a HNE.out
      have fm48:w3.frozen? ⟨B,48,none⟩=false:=frozen_of_heap (Q.touch.heapAt HA3.out.blk HNE.out) 48
      clear Q c48 c48a y0
      refine hKK _ _ ?_
      clear hKK KK
      simp only [Act.put,List.setIfInBounds_toArray,List.set_cons_zero,List.set_cons_succ]
      refine tA 11 ?_
      try simp only [lA,lB,lC,Act.put,lD,lE,lF]
      refine tA 12 ?_
      try simp only [lA,lB,lC,Act.put,lD,lE,lF]
      refine wpAny_ready (rs:=[13]) (by kernel_rfl) (by simp) ?_
      refine AllReady.cons rfl (fun K hK=>?_) AllReady.nil
      go_simp
      refine hK _ _ ?_
      clear hK K
      refine wpAny_done (by kernel_rfl) ?_ _
      go_wp2
      go_end0
      exact HX.out _ g c (RChg.of HB02.out HV.out HPU.out)
end
def RV.pushAll (v:RV) (os:List OutG) (g:Option Nat) (c:Nat):RV:={ v with os:=v.os++os,sg:=g,sc:=c }
theorem RV.pushAll_nil (v:RV):v.pushAll [] v.sg v.sc=v:=by unfold RV.pushAll;rw [List.append_nil]
theorem RV.pushAll_push (v:RV) (os:List OutG) (g:Option Nat) (c:Nat) (x:OutG) (g' c':Nat):(v.pushAll os g c).push x g' c'=v.pushAll (os++[x]) (some g') c':=by
  unfold RV.pushAll RV.push
  dsimp only
  rw [List.append_assoc]
def AllRet (w:World) (B:Nat) (v:RV) (os:List OutG) (e:Ending) (w':World):Prop:=e=.returned (.tuple #[])∧∃ g c,RChg w w' B v (v.pushAll os g c)
theorem Box.touch' {T:Nat→Prop} {B:Nat} {v0 v1 v2 v3 v4 v5 v6 v7 v8 v9:Value} {x y:World} (h:Box B v0 v1 v2 v3 v4 v5 v6 v7 v8 v9 x) (ht:Touch T x y) (hn:¬ T B):Box B v0 v1 v2 v3 v4 v5 v6 v7 v8 v9 y:=ht.heapAt h hn
theorem RChg.box {x y:World} {B Q:Nat} {v u:RV} {v0 v1 v2 v3 v4 v5 v6 v7 v8 v9:Value} (h:RChg x y B v u) (hv:v.At x B) (hb:Box Q v0 v1 v2 v3 v4 v5 v6 v7 v8 v9 x):Box Q v0 v1 v2 v3 v4 v5 v6 v7 v8 v9 y :=
  hb.touch' h.tch (fun e=>by
    rcases e with e | e
    · subst e
      have h1:=hv.blk
      have h2:x.heap[Q]?=_:=hb
      rw [h1] at h2
      simp at h2
    · exact RowT.ne hv.so.own hb (by decide) e)
section
variable (v:RV) (B:Nat) (w:World) (h:v.At w B)
include h
theorem refAll (n:Nat) (hk:v.kp=n) (hn:n≤5) (f:Fr) (hf:f.lines=[]) (ho:v.os.length≤900) (b:List UInt8) (hb:packS { f with frm:=v.me }=b) :
    Calls Tryz.prog 110 #[.pointer (some ⟨B,0,none⟩),.agg #[.int .i64 f.kind,.int .i64 f.frm,.int .i64 f.view,.int .i64 f.place,.int .i64 f.agreed,.int .i64 f.last,.int .i64 f.line.c,.int .i64 f.line.t,.string ⟨f.line.s.toArray⟩,.slice none 0 0]] w (AllRet w B v ((othersL v.me n).map fun t=>⟨false,t,b⟩)):=by
  have HS:Hid (∀ (u:RV) (z:World) (t:Int),u.At z B→u.me=v.me→u.os.length≤1000→Calls Tryz.prog 107 #[.pointer (some ⟨B,0,none⟩),.int .i64 t,.agg #[.int .i64 f.kind,.int .i64 f.frm,.int .i64 f.view,.int .i64 f.place,.int .i64 f.agreed,.int .i64 f.last,.int .i64 f.line.c,.int .i64 f.line.t,.string ⟨f.line.s.toArray⟩,.slice none 0 0]] z (SentRet z B u ⟨false,t,b⟩)):=fun u z t hu he hl=>by
    have:=refSend u B z hu t f none 0 (by rw [hf];exact fun j hj=>absurd hj (Nat.not_lt_zero _)) (by rw [hf];exact Nat.zero_le _) (by rw [hf];exact Nat.zero_le _) hl b (by rw [he];exact hb)
    rw [hf] at this
    exact this
  have HBX:=hid (heap_alloc_new w (.cells #[.int .i64 f.kind,.int .i64 f.frm,.int .i64 f.view,.int .i64 f.place,.int .i64 f.agreed,.int .i64 f.last,.int .i64 f.line.c,.int .i64 f.line.t,.string ⟨f.line.s.toArray⟩,.slice none 0 0] 30))
  have H0:=hid (RChg.same h ((Below.refl _ w).alloc (Nat.le_refl _) (.cells #[.int .i64 f.kind,.int .i64 f.frm,.int .i64 f.view,.int .i64 f.place,.int .i64 f.agreed,.int .i64 f.last,.int .i64 f.line.c,.int .i64 f.line.t,.string ⟨f.line.s.toArray⟩,.slice none 0 0] 30)))
  have HX:Hid (∀ y g c,RChg w y B v (v.pushAll ((othersL v.me n).map fun t=>⟨false,t,b⟩) g c)→AllRet w B v ((othersL v.me n).map fun t=>⟨false,t,b⟩) (.returned (.tuple #[])) y):=fun y g c hh=>⟨rfl,g,c,hh⟩
  generalize hQ:AllRet w B v ((othersL v.me n).map fun t=>⟨false,t,b⟩)=Q at *
  clear hQ
  have HV:=hid h
  have HK:=hid hk
  clear h hb hf hk
  go_enter Tryz.func110,Tryz.ntmps110
  go_wp2
  go_loopw [4] (fun i wr=>∃ (k:Nat) (g:Option Nat) (c:Nat),k≤n∧i=.int .i64 k∧Hid (RChg w wr B v (v.pushAll ((othersL v.me k).map fun t=>⟨false,t,b⟩) g c))∧Hid (Box w.heap.size (.int .i64 f.kind) (.int .i64 f.frm) (.int .i64 f.view) (.int .i64 f.place) (.int .i64 f.agreed) (.int .i64 f.last) (.int .i64 f.line.c) (.int .i64 f.line.t) (.string ⟨f.line.s.toArray⟩) (.slice none 0 0) wr)) (fun i _=>n - (intOf i).toNat)
  case atStart=>exact ⟨0,v.sg,v.sc,Nat.zero_le _,rfl,by show RChg _ _ _ _ _;have:=H0.out;rw [← RV.pushAll_nil v] at this;rw [RV.pushAll_nil] at this;exact (by unfold othersL;rw [List.map_nil,RV.pushAll_nil];exact this),HBX.out⟩
  case round =>
    obtain ⟨k,g,c,hkn,rfl,HR,HQ⟩:=hrel
    have c0:wr.cell? ⟨B,0,none⟩=some (.int .i64 n):=by rw [← HK.out];exact cell_of_heap HR.out.at_.blk 0
    have c1:wr.cell? ⟨B,1,none⟩=some (.int .i64 v.me):=cell_of_heap HR.out.at_.blk 1
    have hol:=othersL_len v.me k
    by_cases hlt:k < n
    · have b1:(k:Int) < (n:Int):=by omega
      by_cases hme:(k:Int)=v.me
      · have HME:=hid hme
        have hbe:(k:Int)=v.me↔True:=iff_true_intro hme
        go_wp2
        go_roundw
        case rel=>exact ⟨k+1,g,c,by omega,by go_num,by unfold othersL;rw [if_pos HME.out,List.append_nil];exact HR,HQ⟩
        case measure=>simp [intOf];omega
      · have HSS:=hid (HS.out _ wr k HR.out.at_ rfl (by show (v.os++_).length≤1000;rw [List.length_append,List.length_map];omega))
        unfold SentRet at HSS
        obtain ⟨r0,r1,r2,r3,r4,r5,r6,r7,r8,r9⟩:=box_cells HQ.out
        go_wp2_with fail
        refine HSS.out.mono ?_
        rintro e x1 ⟨rfl,g2,c2,hch⟩
        have HQ2:=hid (hch.box HR.out.at_ HQ.out)
        have HR2:=hid (HR.out.trans hch)
        rw [RV.pushAll_push] at HR2
        clear hch
        go_wp2
        go_roundw
        case rel=>exact ⟨k+1,some g2,c2,by omega,by go_num,by unfold othersL;rw [if_neg hme,List.map_append];exact HR2,HQ2⟩
        case measure=>simp [intOf];omega
    · have hkn:k=n:=by omega
      subst hkn
      go_wp2
      go_end0
      exact HX.out _ g c HR.out
end
end
end Go.Proofs.YtolififimldmlaaGreat
