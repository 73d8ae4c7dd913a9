import Derived.Test.YtolififimldmlaaGreatPart15
import Derived.Test.YtolififimldmlaaGreatPart08
import Derived.StillTailTactics
import Derived.Test.YtolififimldmlaaGreatPart06
set_option linter.unusedVariables false
set_option linter.unusedSimpArgs false
set_option maxRecDepth 100000
set_option maxHeartbeats 16000000
namespace Go.Proofs.YtolififimldmlaaGreat
section
open Go.RowKit
attribute [local go_sem ↓] Go.wp_at_zero Go.wp_at_succ
theorem conf_no {kp me pa:Int} (h:¬ ConfOk kp me pa):(kp≠3∧kp≠5)∨((kp=3∨kp=5)∧(me < 0∨(0≤me∧(kp≤me∨(me < kp∧(pa < 2∨(2≤pa∧20 < pa))))))):=by
  unfold ConfOk at h
  omega
def refCells (kp me pa:Int) (d:List UInt8) (m:Mm) (g:Option Nat) (c:Nat):Array Value :=
  #[.int .i64 kp,.int .i64 me,.int .i64 pa,.string ⟨d.toArray⟩,.int .i64 0,.bool false,.string ⟨#[]⟩,.int .i64 m.view,.int .i64 m.last,.slice (g.map fun k=>⟨k,0,none⟩) m.ls.length c,.int .i64 0,
    .int .i64 0,.int .i64 0,.int .i64 0,.int .i64 0,.int .i64 0,.bool false,.bool false,.bool false,.bool false,.bool false,.bool false,.bool false,.bool false,.bool false,.bool false,
    .int .i64 0,.int .i64 0,.int .i64 0,.slice none 0 0,.int .i64 0,.int .i64 0,.int .i64 0,.slice none 0 0,.int .i64 0,.int .i64 0,.int .i64 0,.slice none 0 0,.int .i64 0,.int .i64 0,.int .i64 0,.slice none 0 0,.int .i64 0,.int .i64 0,.int .i64 0,.slice none 0 0,
    .bool false,.int .i64 0,.slice none 0 0]
def RefOpened (w:World) (kp me pa:Int) (s:List UInt8) (e:Ending) (w':World):Prop :=
  Below w.heap.size w w'∧((¬ ConfOk kp me pa∧e=.returned (.tuple #[.pointer none,.int .i64 1])) ∨
    (ConfOk kp me pa∧∃ K g c,e=.returned (.tuple #[.pointer (some ⟨K,0,none⟩),.int .i64 0])∧w'.heap[K]?=some (.cells (refCells kp me pa (s.take (readD s).2) (readD s).1 g c) 185 (0,0))∧OwnLines w w' g c (readD s).1.ls∧w.heap.size≤K∧g≠some K))
theorem refOpen_no (kp me pa:Int) (s:List UInt8) (w:World) (hc:¬ ConfOk kp me pa):Calls Tryz.prog 148 #[.agg #[.int .i64 kp,.int .i64 me,.int .i64 pa],.string ⟨s.toArray⟩] w (RefOpened w kp me pa s):=by
  have HE:Hid (∀ w',Below w.heap.size w w'→RefOpened w kp me pa s (.returned (.tuple #[.pointer none,.int .i64 1])) w'):=fun w' hb=>⟨hb,.inl ⟨hc,rfl⟩⟩
  have h:=conf_no hc
  clear hc
  rcases h with ⟨h1,h2⟩ | ⟨hk,h⟩
  · go_enter Tryz.func148,Tryz.ntmps148
    go_wp2
    all_goals (go_ret2;exact HE.out _ ((Below.refl _ _).alloc (Nat.le_refl _) _))
  rcases h with h | ⟨h0,h⟩
  · rcases hk with rfl | rfl
    all_goals
      go_enter Tryz.func148,Tryz.ntmps148
      go_wp2
      go_ret2
      exact HE.out _ ((Below.refl _ _).alloc (Nat.le_refl _) _)
  rcases h with h | ⟨h1,h⟩
  · rcases hk with rfl | rfl
    all_goals
      go_enter Tryz.func148,Tryz.ntmps148
      go_wp2
      go_ret2
      exact HE.out _ ((Below.refl _ _).alloc (Nat.le_refl _) _)
  rcases h with h | ⟨h2,h⟩
  all_goals
    rcases hk with rfl | rfl
    all_goals
      go_enter Tryz.func148,Tryz.ntmps148
      go_wp2
      go_ret2
      exact HE.out _ ((Below.refl _ _).alloc (Nat.le_refl _) _)
theorem refOpen_yes (kp me pa:Int) (s:List UInt8) (w:World) (hc:ConfOk kp me pa) (hn:s.length≤10000000):Calls Tryz.prog 148 #[.agg #[.int .i64 kp,.int .i64 me,.int .i64 pa],.string ⟨s.toArray⟩] w (RefOpened w kp me pa s):=by
  have HC:=hid hc
  obtain ⟨hk,h0,h1,h2,h3⟩:=hc
  have hle:=readD_le s
  rcases hk with rfl | rfl
  · go_enter Tryz.func148,Tryz.ntmps148
    go_wp2_with fail
    refine (read_any s _ hn).mono ?_
    rintro e w2 ⟨g,c,rfl,hol,hb2⟩
    have HX:Hid (∀ K w',w'.heap[K]?=some (.cells (refCells 3 me pa (s.take (readD s).2) (readD s).1 g c) 185 (0,0))→OwnLines w w' g c (readD s).1.ls→w.heap.size≤K→g≠some K→Below w.heap.size w w'→RefOpened w 3 me pa s (.returned (.tuple #[.pointer (some ⟨K,0,none⟩),.int .i64 0])) w'):=fun K w' a1 a2 a3 a4 a5=>⟨a5,.inr ⟨HC.out,K,g,c,rfl,a1,a2,a3,a4⟩⟩
    have W2:Hid (Below w.heap.size w w2):=((Below.refl _ w).alloc (Nat.le_refl _) _).trans (hb2.mono (by simp))
    have HOL:=hid (hol.base (u:=w) (by simp))
    have HCB:Hid (MBox w.heap.size 63 (.int .i64 3) (.int .i64 me) (.int .i64 pa) w2):=MBox.below (heap_alloc_new w _) hb2
    have x1:=extr s 0 (readD s).2
    rw [List.drop_zero,Nat.sub_zero] at x1
    clear hol hb2
    generalize hm:(readD s).1=m at *
    generalize hk:(readD s).2=k at *
    generalize s.take k=d at *
    obtain ⟨view,last,ls⟩:=m
    have HMV:Hid ((Mm.mk view last ls).val (g.map fun x=>(⟨x,0,none⟩:Addr)) c=.agg #[.int .i64 view,.int .i64 last,.slice (g.map fun x=>⟨x,0,none⟩) ls.length c]):=rfl
    rw [HMV.out]
    have lk:(k:Int)≤(s.length:Int):=by omega
    have lk0:(0:Int)≤(k:Int):=by omega
    clear hm hk
    dsimp only at *
    go_wp2
    generalize hY:w2.alloc (.cells #[.int .i64 view,.int .i64 last,.slice (g.map fun x=>⟨x,0,none⟩) ls.length c] 176)=Y
    have sY:Y.heap.size=w2.heap.size+1:=by rw [← hY];simp
    have b2Y:Below w2.heap.size w2 Y:=by rw [← hY];exact (Below.refl _ _).alloc (Nat.le_refl _) _
    have HTY:Hid (MBox w2.heap.size 176 (.int .i64 view) (.int .i64 last) (.slice (g.map fun k=>⟨k,0,none⟩) ls.length c) Y):=by show MBox _ _ _ _ _ _;rw [← hY];exact heap_alloc_new w2 _
    have HCY:=hid (HCB.out.below b2Y)
    have BY:Hid (Below w.heap.size w Y):=W2.out.trans (b2Y.mono W2.out.size)
    have HOY:Hid (OwnLines w Y g c ls):=HOL.out.below b2Y
    have hgY:Hid (g≠some Y.heap.size):=fun e=>by have:=HOY.out.own.lt e;omega
    clear hY b2Y sY
    obtain ⟨y0,y1,y2,fy⟩:=mbox_cells HTY.out
    obtain ⟨c0,c1,c2,fc⟩:=mbox_cells HCY.out
    go_still_tail 6,(by kernel_rfl)
    go_wp2
    go_ret2
    refine HX.out _ _ ?_ ?_ BY.out.size hgY.out ?_
    · unfold refCells
      exact heap_alloc_new Y _
    · exact (HOY.out.below ((Below.refl _ _).alloc (Nat.le_refl _) _)).below ((Below.refl _ _).drew)
    · exact (BY.out.alloc BY.out.size _).drew
  · go_enter Tryz.func148,Tryz.ntmps148
    go_wp2_with fail
    refine (read_any s _ hn).mono ?_
    rintro e w2 ⟨g,c,rfl,hol,hb2⟩
    have HX:Hid (∀ K w',w'.heap[K]?=some (.cells (refCells 5 me pa (s.take (readD s).2) (readD s).1 g c) 185 (0,0))→OwnLines w w' g c (readD s).1.ls→w.heap.size≤K→g≠some K→Below w.heap.size w w'→RefOpened w 5 me pa s (.returned (.tuple #[.pointer (some ⟨K,0,none⟩),.int .i64 0])) w'):=fun K w' a1 a2 a3 a4 a5=>⟨a5,.inr ⟨HC.out,K,g,c,rfl,a1,a2,a3,a4⟩⟩
    have W2:Hid (Below w.heap.size w w2):=((Below.refl _ w).alloc (Nat.le_refl _) _).trans (hb2.mono (by simp))
    have HOL:=hid (hol.base (u:=w) (by simp))
    have HCB:Hid (MBox w.heap.size 63 (.int .i64 5) (.int .i64 me) (.int .i64 pa) w2):=MBox.below (heap_alloc_new w _) hb2
    have x1:=extr s 0 (readD s).2
    rw [List.drop_zero,Nat.sub_zero] at x1
    clear hol hb2
    generalize hm:(readD s).1=m at *
    generalize hk:(readD s).2=k at *
    generalize s.take k=d at *
    obtain ⟨view,last,ls⟩:=m
    have HMV:Hid ((Mm.mk view last ls).val (g.map fun x=>(⟨x,0,none⟩:Addr)) c=.agg #[.int .i64 view,.int .i64 last,.slice (g.map fun x=>⟨x,0,none⟩) ls.length c]):=rfl
    rw [HMV.out]
    have lk:(k:Int)≤(s.length:Int):=by omega
    have lk0:(0:Int)≤(k:Int):=by omega
    clear hm hk
    dsimp only at *
    go_wp2
    generalize hY:w2.alloc (.cells #[.int .i64 view,.int .i64 last,.slice (g.map fun x=>⟨x,0,none⟩) ls.length c] 176)=Y
    have sY:Y.heap.size=w2.heap.size+1:=by rw [← hY];simp
    have b2Y:Below w2.heap.size w2 Y:=by rw [← hY];exact (Below.refl _ _).alloc (Nat.le_refl _) _
    have HTY:Hid (MBox w2.heap.size 176 (.int .i64 view) (.int .i64 last) (.slice (g.map fun k=>⟨k,0,none⟩) ls.length c) Y):=by show MBox _ _ _ _ _ _;rw [← hY];exact heap_alloc_new w2 _
    have HCY:=hid (HCB.out.below b2Y)
    have BY:Hid (Below w.heap.size w Y):=W2.out.trans (b2Y.mono W2.out.size)
    have HOY:Hid (OwnLines w Y g c ls):=HOL.out.below b2Y
    have hgY:Hid (g≠some Y.heap.size):=fun e=>by have:=HOY.out.own.lt e;omega
    clear hY b2Y sY
    obtain ⟨y0,y1,y2,fy⟩:=mbox_cells HTY.out
    obtain ⟨c0,c1,c2,fc⟩:=mbox_cells HCY.out
    go_still_tail 6,(by kernel_rfl)
    go_wp2
    go_ret2
    refine HX.out _ _ ?_ ?_ BY.out.size hgY.out ?_
    · unfold refCells
      exact heap_alloc_new Y _
    · exact (HOY.out.below ((Below.refl _ _).alloc (Nat.le_refl _) _)).below ((Below.refl _ _).drew)
    · exact (BY.out.alloc BY.out.size _).drew
def refCellsG (kp me pa:Int) (d:List UInt8) (arm:Int) (dead:Bool) (lost:List UInt8) (m:Mm) (ag:Nat) (hs:Nat→Int) (g:Option Nat) (c:Nat):Array Value :=
  #[.int .i64 kp,.int .i64 me,.int .i64 pa,.string ⟨d.toArray⟩,.int .i64 arm,.bool dead,.string ⟨lost.toArray⟩,.int .i64 m.view,.int .i64 m.last,.slice (g.map fun k=>⟨k,0,none⟩) m.ls.length c,.int .i64 ag,
    .int .i64 (hs 0),.int .i64 (hs 1),.int .i64 (hs 2),.int .i64 (hs 3),.int .i64 (hs 4),.bool false,.bool false,.bool false,.bool false,.bool false,.bool false,.bool false,.bool false,.bool false,.bool false,
    .int .i64 0,.int .i64 0,.int .i64 0,.slice none 0 0,.int .i64 0,.int .i64 0,.int .i64 0,.slice none 0 0,.int .i64 0,.int .i64 0,.int .i64 0,.slice none 0 0,.int .i64 0,.int .i64 0,.int .i64 0,.slice none 0 0,.int .i64 0,.int .i64 0,.int .i64 0,.slice none 0 0,
    .bool false,.int .i64 0,.slice none 0 0]
def RIs (w:World) (K:Nat) (G:Nat→Prop) (s:LK):Prop :=
  ∃ (arm:Int) (m:Mm) (ag:Nat) (hs:Nat→Int) (g:Option Nat) (c:Nat),w.heap[K]?=some (.cells (refCellsG s.kp s.me s.pa s.d arm s.dead s.lost m ag hs g c) 185 (0,0)) ∧
    LinesAt w (g.map fun k=>(⟨k,0,none⟩:Addr)) m.ls∧m.ls.length≤c∧(s.dead=false→arm=s.arm∧m=s.m∧ag=s.agreed∧hs=s.hs)∧∀ k,G k↔(k=K∨g=some k)
theorem RIs.touch {T:Nat→Prop} {w w':World} {K:Nat} {G:Nat→Prop} {s:LK} (h:RIs w K G s) (ht:Touch T w w') (hn:∀ k,G k→¬ T k):RIs w' K G s:=by
  obtain ⟨arm,m,ag,hs,g,c,h1,h2,h3,h4,h5⟩:=h
  refine ⟨arm,m,ag,hs,g,c,ht.heapAt h1 (hn K ((h5 K).2 (.inl rfl))),h2.touch ht (fun q e=>?_),h3,h4,h5⟩
  cases g with
  | none=>cases e
  | some g0=>cases e;exact hn g0 ((h5 g0).2 (.inr rfl))
theorem RIs.below {w w':World} {K:Nat} {G:Nat→Prop} {s:LK} (h:RIs w K G s) (hb:Below w.heap.size w w'):RIs w' K G s:=h.touch (Touch.of_belowAll hb (fun _=>False)) (fun _ _ e=>e)
theorem RIs.opened {w:World} {K:Nat} {kp me pa:Int} {d:List UInt8} {m:Mm} {g:Option Nat} {c:Nat} (h:w.heap[K]?=some (.cells (refCells kp me pa d m g c) 185 (0,0))) (hl:LinesAt w (g.map fun k=>(⟨k,0,none⟩:Addr)) m.ls) (hc:m.ls.length≤c):RIs w K (fun k=>k=K∨g=some k) (LK.opened kp me pa d m) :=
  ⟨0,m,0,fun _=>0,g,c,h,hl,hc,fun _=>⟨rfl,rfl,rfl,rfl⟩,fun _=>Iff.rfl⟩
theorem RIs.lt {w:World} {K:Nat} {G:Nat→Prop} {s:LK} (h:RIs w K G s):K < w.heap.size:=by
  obtain ⟨arm,m,ag,hs,g,c,h1,_⟩:=h
  exact heap_lt h1
theorem RIs.conf {w:World} {K:Nat} {G:Nat→Prop} {s:LK} (h:RIs w K G s):w.cell? ⟨K,0,none⟩=some (.int .i64 s.kp)∧w.cell? ⟨K,1,none⟩=some (.int .i64 s.me)∧w.cell? ⟨K,2,none⟩=some (.int .i64 s.pa):=by
  obtain ⟨arm,m,ag,hs,g,c,h1,_⟩:=h
  exact ⟨cell_of_heap h1 0,cell_of_heap h1 1,cell_of_heap h1 2⟩
theorem stateRet {Q:Ending→World→Prop} {a:Act} {W:World} {B:Nat} {fz:Nat × Nat} {v0 v1 v2 v3:Value} (hB:W.heap[B]?=some (.cells #[v0,v1,v2,v3] 67 fz))
    (ht:a.tmps[2]?=some (.pointer (some ⟨B,0,none⟩))) (hd:a.defers=[]) (hq:Q (.returned (.agg #[v0,v1,v2,v3])) W):bodyPost Tryz.prog Tryz.f55 Q Exit.ret a W:=by
  have c0:W.cell? ⟨B,0,none⟩=some v0:=(cell_of_heap hB 0).trans rfl
  have c1:W.cell? ⟨B,1,none⟩=some v1:=(cell_of_heap hB 1).trans rfl
  have c2:W.cell? ⟨B,2,none⟩=some v2:=(cell_of_heap hB 2).trans rfl
  have c3:W.cell? ⟨B,3,none⟩=some v3:=(cell_of_heap hB 3).trans rfl
  exact bodyPost_ret (v:=.agg #[v0,v1,v2,v3]) (by simp [results,Tryz.results55,go_sem,ht,c0,c1,c2,c3]) hd hq
def LK.stateV (s:LK):Value:=.agg #[.int .i64 s.mv.view,.int .i64 s.mv.last,.int .i64 s.mv.ls.length,.int .i64 s.av]
theorem refState_any (K:Nat) (G:Nat→Prop) (s:LK) (w:World) (h:RIs w K G s) :
    Calls Tryz.prog 55 #[.pointer (some ⟨K,0,none⟩)] w fun e w'=>e=.returned s.stateV∧Below w.heap.size w w':=by
  have hK:K < w.heap.size:=h.lt
  obtain ⟨arm,m,ag,hs,g,c,h1,_,_,h4,_⟩:=h
  have c5:w.cell? ⟨K,5,none⟩=some (.bool s.dead):=cell_of_heap h1 5
  have c7:w.cell? ⟨K,7,none⟩=some (.int .i64 m.view):=cell_of_heap h1 7
  have c8:w.cell? ⟨K,8,none⟩=some (.int .i64 m.last):=cell_of_heap h1 8
  have c9:w.cell? ⟨K,9,none⟩=some (.slice (g.map fun k=>⟨k,0,none⟩) m.ls.length c):=cell_of_heap h1 9
  have c10:w.cell? ⟨K,10,none⟩=some (.int .i64 ag):=cell_of_heap h1 10
  clear h1
  unfold LK.stateV LK.mv LK.av
  have hK2:K≠w.heap.size:=by omega
  generalize hd:s.dead=dead at *
  cases dead
  · obtain ⟨_,rfl,rfl,_⟩:=h4 rfl
    generalize s.m=m at *
    generalize s.agreed=ag at *
    obtain ⟨view,last,ls⟩:=m
    dsimp only at *
    simp only [Bool.false_eq_true,if_false]
    clear hd
    go_enter Tryz.func55,Tryz.ntmps55
    go_wp2
    generalize hY:w.alloc (.cells #[.int .i64 0,.int .i64 0,.int .i64 0,.int .i64 0] 67)=Y
    have y7:Y.cell? ⟨K,7,none⟩=_:=(by rw [← hY,World.cell?_alloc_past _ _ _ hK];exact c7:Y.cell? ⟨K,7,none⟩=some (.int .i64 view))
    have y8:Y.cell? ⟨K,8,none⟩=some (.int .i64 last):=by rw [← hY,World.cell?_alloc_past _ _ _ hK];exact c8
    have y9:Y.cell? ⟨K,9,none⟩=some (.slice (g.map fun k=>⟨k,0,none⟩) ls.length c):=by rw [← hY,World.cell?_alloc_past _ _ _ hK];exact c9
    have y10:Y.cell? ⟨K,10,none⟩=some (.int .i64 ag):=by rw [← hY,World.cell?_alloc_past _ _ _ hK];exact c10
    have hR:Y.heap[w.heap.size]?=some (.cells #[.int .i64 0,.int .i64 0,.int .i64 0,.int .i64 0] 67 (0,0)):=by rw [← hY];exact heap_alloc_new w _
    have q0:Y.cell? ⟨w.heap.size,0,none⟩=some (.int .i64 0):=cell_of_heap hR 0
    have q1:Y.cell? ⟨w.heap.size,1,none⟩=some (.int .i64 0):=cell_of_heap hR 1
    have q2:Y.cell? ⟨w.heap.size,2,none⟩=some (.int .i64 0):=cell_of_heap hR 2
    have q3:Y.cell? ⟨w.heap.size,3,none⟩=some (.int .i64 0):=cell_of_heap hR 3
    have fq:∀ j,Y.frozen? ⟨w.heap.size,j,none⟩=false:=fun j=>frozen_of_heap hR j
    have HR:=hid hR
    have BY:Hid (Below w.heap.size w Y):=by show Below _ _ _;rw [← hY];exact (Below.refl _ _).alloc (Nat.le_refl _) _
    clear hY hR c5 c7 c8 c9 c10
    go_still_tail 21,(by kernel_rfl)
    go_wp2
    have h4:=heap_setCell (heap_setCell (heap_setCell (heap_setCell HR.out 0 (.int .i64 view)) 1 (.int .i64 last)) 2 (.int .i64 ls.length)) 3 (.int .i64 ag)
    simp only [List.setIfInBounds_toArray,List.set_cons_zero,List.set_cons_succ] at h4
    exact stateRet h4 rfl rfl ⟨rfl,((((BY.out.setCell (p:=⟨w.heap.size,0,none⟩) (Nat.le_refl _) _).setCell (p:=⟨w.heap.size,1,none⟩) (Nat.le_refl _) _).setCell (p:=⟨w.heap.size,2,none⟩) (Nat.le_refl _) _).setCell (p:=⟨w.heap.size,3,none⟩) (Nat.le_refl _) _).drew⟩
  · clear h4 c7 c8 c9 c10
    simp only [if_true]
    unfold Mm.zero
    dsimp only
    go_enter Tryz.func55,Tryz.ntmps55
    go_wp2
    exact stateRet (heap_alloc_new w _) rfl rfl ⟨rfl,(Below.refl _ w).alloc (Nat.le_refl _) _⟩
theorem refLines_any (K:Nat) (G:Nat→Prop) (s:LK) (w:World) (h:RIs w K G s) (hok:s.ok) :
    Calls Tryz.prog 57 #[.pointer (some ⟨K,0,none⟩)] w fun e w'=>∃ a c,e=.returned (sla a (s.mv.ls.take s.av).length c)∧LinesAt w' a (s.mv.ls.take s.av)∧Below w.heap.size w w':=by
  have hal:=LK.av_le hok
  have hal2:=LK.mv_len hok
  obtain ⟨arm,m,ag,hs,g,c,h1,hl,hc,h4,_⟩:=h
  have HL:=hid hl
  have c5:w.cell? ⟨K,5,none⟩=some (.bool s.dead):=cell_of_heap h1 5
  have c9:w.cell? ⟨K,9,none⟩=some (.slice (g.map fun k=>⟨k,0,none⟩) m.ls.length c):=cell_of_heap h1 9
  have c10:w.cell? ⟨K,10,none⟩=some (.int .i64 ag):=cell_of_heap h1 10
  clear h1 hl hok
  rw [List.length_take,Nat.min_eq_left hal]
  unfold LK.mv LK.av at *
  generalize hd:s.dead=dead at *
  cases dead
  · obtain ⟨_,rfl,rfl,_⟩:=h4 rfl
    generalize s.m=m at *
    generalize s.agreed=ag at *
    obtain ⟨view,last,ls⟩:=m
    simp only [Bool.false_eq_true,if_false] at *
    clear hd h4
    have b0:(0:Int)≤(ag:Int):=by omega
    have b1:(ag:Int)≤(c:Int):=by omega
    have HX:Hid (∀ w',Below w.heap.size w w'→∃ a c',Ending.returned (.slice (g.map fun k=>⟨k,0,none⟩) ag c)=.returned (sla a ag c')∧LinesAt w' a (ls.take ag)∧Below w.heap.size w w'):=fun w' hb=>⟨_,_,rfl,(HL.out.take ag).below hb,hb⟩
    cases g with
    | none =>
      simp only [Option.map_none] at c9 HX ⊢
      go_enter Tryz.func57,Tryz.ntmps57
      go_wp2
      go_still_tail 10,(by kernel_rfl)
      go_wp2
      go_ret
      exact HX.out _ ((Below.refl _ _).drew)
    | some g =>
      simp only [Option.map_some] at c9 HX ⊢
      go_enter Tryz.func57,Tryz.ntmps57
      go_wp2
      go_still_tail 10,(by kernel_rfl)
      go_wp2
      go_ret
      exact HX.out _ ((Below.refl _ _).drew)
  · simp only [if_true] at *
    clear h4 c9 c10
    go_enter Tryz.func57,Tryz.ntmps57
    go_wp2
    go_ret
    exact ⟨none,0,rfl,fun j hj=>absurd hj (by simp),Below.refl _ _⟩
theorem refImage_any (K:Nat) (G:Nat→Prop) (s:LK) (w:World) (keep:Int) (h:RIs w K G s) (hn:s.d.length+s.lost.length≤9900000) :
    Calls Tryz.prog 59 #[.pointer (some ⟨K,0,none⟩),.int .i64 keep] w fun e w'=>e=.returned (.string ⟨(s.image keep).toArray⟩)∧Below w.heap.size w w':=by
  obtain ⟨arm,m,ag,hs,g,c,h1,_,_,_,_⟩:=h
  have c3:w.cell? ⟨K,3,none⟩=some (.string ⟨s.d.toArray⟩):=cell_of_heap h1 3
  have c5:w.cell? ⟨K,5,none⟩=some (.bool s.dead):=cell_of_heap h1 5
  have c6:w.cell? ⟨K,6,none⟩=some (.string ⟨s.lost.toArray⟩):=cell_of_heap h1 6
  clear h1
  unfold LK.image LK.dead at *
  generalize s.d=d at *
  generalize s.lost=lost at *
  by_cases hd:lost=[]
  · subst hd
    simp only [List.isEmpty_nil,Bool.not_true,List.take_nil,List.append_nil] at *
    go_enter Tryz.func59,Tryz.ntmps59
    go_wp2
    go_ret
    exact ⟨rfl,Below.refl _ _⟩
  · have he:lost.isEmpty=false:=by cases lost with
      | nil=>exact absurd rfl hd
      | cons _ _=>rfl
    rw [he] at c5
    simp only [Bool.not_false] at c5
    rcases Int.lt_or_le keep 0 with hk | hk
    · rw [show keep.toNat=0 from by omega,List.take_zero,List.append_nil]
      go_enter Tryz.func59,Tryz.ntmps59
      go_wp2
      go_ret
      exact ⟨rfl,Below.refl _ _⟩
    · rcases Int.lt_or_le (lost.length:Int) keep with hk2 | hk2
      · rw [List.take_of_length_le (by omega)]
        have x1:=extr lost 0 lost.length
        rw [List.drop_zero,Nat.sub_zero,List.take_of_length_le (Nat.le_refl _)] at x1
        have l0:(0:Int)≤(lost.length:Int):=by omega
        have hnl:¬ 9223372036854775807 < d.length+lost.length:=by omega
        go_enter Tryz.func59,Tryz.ntmps59
        go_wp2
        go_still_tail 10,(by kernel_rfl)
        go_wp2
        go_ret
        exact ⟨ret_str (by rw [ByteArray.data_append,Array.toList_append]),(Below.refl _ _).drew⟩
      · obtain ⟨k,rfl⟩:∃ k:Nat,keep=k:=⟨keep.toNat,by omega⟩
        rw [Int.toNat_natCast]
        have x1:=extr lost 0 k
        rw [List.drop_zero,Nat.sub_zero] at x1
        have hnl:¬ 9223372036854775807 < d.length+min k lost.length:=by omega
        have l1:¬ (lost.length < k):=by omega
        go_enter Tryz.func59,Tryz.ntmps59
        go_wp2
        go_still_tail 10,(by kernel_rfl)
        go_wp2
        go_ret
        exact ⟨ret_str (by rw [ByteArray.data_append,Array.toList_append]),(Below.refl _ _).drew⟩
def OpsAt (w:World) (a:Option Addr) (ops:List OpG):Prop :=
  ∀ j (h:j < ops.length),∃ g o,a=some ⟨g,o,none⟩∧(∀ r,r < 17→w.cell? ⟨g,o+j * 17+r,none⟩=ops[j].cells[r]?)∧LinesAt w ops[j].fa ops[j].f.lines
def OpG.small (o:OpG):Prop:=o.s.length≤9000000∧o.f.lines.length≤10000000∧o.f.lines.length≤o.fc
def OpG.ranged (o:OpG):Prop:=(-9223372036854775808≤o.n∧o.n≤9223372036854775807)∧o.a≤9223372036854775807
theorem OpsAt.below {w w':World} {a:Option Addr} {ops:List OpG} (h:OpsAt w a ops) (hb:Below w.heap.size w w'):OpsAt w' a ops:=fun j hj=>by
  obtain ⟨g,o,e,hc,hl⟩:=h j hj
  refine ⟨g,o,e,fun r hr=>?_,hl.below hb⟩
  have h0:=hc r hr
  have:ops[j].cells[r]?=some (ops[j].cells[r]'(by show r < 17;exact hr)):=Array.getElem?_eq_getElem _
  rw [this] at h0 ⊢
  exact (hb.cell (World.block_lt_of_cell? _ _ h0)).trans h0
theorem WI.start (w:World) (lead:Bool) (H:Nat→HG):WI (w.alloc (.cells #[.slice none 0 0,.slice none 0 0,.bool lead] 81)) w.heap.size (.slice none 0 0) lead none 0 0 H :=
  ⟨heap_alloc_new w _,.inl ⟨rfl,rfl,rfl⟩,(fun e=>by cases e),fun j hj=>absurd hj (by omega),fun j hj=>absurd hj (by omega),fun j hj=>absurd hj (by omega),fun j hj=>absurd hj (by omega)⟩
def HG.dull:HG:=⟨0,none,0,0,none,0,0,none,0,0,fun _=>0,0⟩
end
end Go.Proofs.YtolififimldmlaaGreat
