import Derived.Test.YtolififimldmlaaGreatPart08
import Derived.Test.YtolififimldmlaaGreatPart05
import Derived.Test.YtolififimldmlaaGreatPart12
import Derived.Test.YtolififimldmlaaGreatPart11
import Derived.Test.YtolififimldmlaaGreatPart09
set_option linter.unusedVariables false
set_option linter.unusedSimpArgs false
set_option maxRecDepth 100000
set_option maxHeartbeats 16000000
namespace Go.Proofs.YtolififimldmlaaGreat
section
open Go.RowKit
attribute [local go_sem ↓] Go.wp_at_zero Go.wp_at_succ
def Mm.val (m:Mm) (a:Option Addr) (cap:Nat):Value:=.agg #[.int .i64 m.view,.int .i64 m.last,sla a m.ls.length cap]
def MBox (B:Nat) (ty:TypeId) (v0 v1 v2:Value) (x:World):Prop:=x.heap[B]?=some (.cells #[v0,v1,v2] ty (0,0))
theorem mbox_cells {B:Nat} {ty:TypeId} {v0 v1 v2:Value} {x:World} (h:MBox B ty v0 v1 v2 x):x.cell? ⟨B,0,none⟩=some v0∧x.cell? ⟨B,1,none⟩=some v1∧x.cell? ⟨B,2,none⟩=some v2∧∀ j,x.frozen? ⟨B,j,none⟩=false :=
  ⟨cell_of_heap h 0,cell_of_heap h 1,cell_of_heap h 2,frozen_of_heap h⟩
theorem MBox.below {B:Nat} {ty:TypeId} {v0 v1 v2:Value} {x y:World} (h:MBox B ty v0 v1 v2 x) (hb:Below x.heap.size x y):MBox B ty v0 v1 v2 y:=by
  unfold MBox at *
  rw [hb.block _ (heap_lt h)];exact h
def DidM (w:World) (m:Mm) (a:Option Addr) (cap:Nat) (body:List UInt8) (e:Ending) (w':World):Prop :=
  Below w.heap.size w w'∧((doesM m body=none∧e=.returned (.tuple #[m.val a cap,.bool false])) ∨
    ∃ m' g c,doesM m body=some m'∧e=.returned (.tuple #[m'.val (g.map fun k=>(⟨k,0,none⟩:Addr)) c,.bool true])∧OwnLines w w' g c m'.ls)
theorem NilPost.lines {w w':World} {ls:List Ln} {b:Option Nat} {c:Nat} (h:NilPost w w' 27 3 ls.length (lnCells ls) b c):OwnLines w w' b c ls:=by
  refine ⟨fun j hj=>?_,h.own,h.fresh⟩
  obtain ⟨g,rfl,h0⟩:=h.new (j * 3+0) (by omega)
  obtain ⟨g1,e1,h1⟩:=h.new (j * 3+1) (by omega)
  obtain ⟨g2,e2,h2⟩:=h.new (j * 3+2) (by omega)
  cases e1
  cases e2
  rw [lnCells_at ls j _ hj (by omega)] at h0 h1 h2
  exact ⟨g,0,rfl,by simpa [Ln.cells] using h0,by simpa [Ln.cells] using h1,by simpa [Ln.cells] using h2⟩
theorem heap_alloc2 (w:World) (o1:Obj) (cur:Array Value) (e:TypeId):((w.alloc o1).alloc (.cells cur e)).heap[w.heap.size+1]?=some (.cells cur e (0,0)):=by
  have:=heap_alloc_new (w.alloc o1) (.cells cur e)
  rw [World.size_alloc] at this
  exact this
theorem heap_alloc3 (w:World) (o1 o2:Obj) (cur:Array Value) (e:TypeId):(((w.alloc o1).alloc o2).alloc (.cells cur e)).heap[w.heap.size+1+1]?=some (.cells cur e (0,0)):=by
  have:=heap_alloc2 (w.alloc o1) o2 cur e
  rw [World.size_alloc] at this
  exact this
theorem mset2 {w:World} {B:Nat} {ty:TypeId} {v0 v1 v2:Value} (h:MBox B ty v0 v1 v2 w) (v:Value):MBox B ty v0 v1 v (w.setCell ⟨B,2,none⟩ v):=by
  have hh:=heap_setCell h 2 v
  simp only [List.setIfInBounds_toArray,List.set_cons_zero,List.set_cons_succ] at hh
  exact hh
theorem mset0 {w:World} {B:Nat} {ty:TypeId} {v0 v1 v2:Value} (h:MBox B ty v0 v1 v2 w) (v:Value):MBox B ty v v1 v2 (w.setCell ⟨B,0,none⟩ v):=by
  have hh:=heap_setCell h 0 v
  simp only [List.setIfInBounds_toArray,List.set_cons_zero,List.set_cons_succ] at hh
  exact hh
theorem mset1 {w:World} {B:Nat} {ty:TypeId} {v0 v1 v2:Value} (h:MBox B ty v0 v1 v2 w) (v:Value):MBox B ty v0 v v2 (w.setCell ⟨B,1,none⟩ v):=by
  have hh:=heap_setCell h 1 v
  simp only [List.setIfInBounds_toArray,List.set_cons_zero,List.set_cons_succ] at hh
  exact hh
theorem MBox.touch {T:Nat→Prop} {B:Nat} {ty:TypeId} {v0 v1 v2:Value} {x y:World} (h:MBox B ty v0 v1 v2 x) (ht:Touch T x y) (hn:¬ T B):MBox B ty v0 v1 v2 y:=ht.heapAt h hn
theorem areLines_at (a:Option Addr) (n cap:Nat) (ls:List Ln) (w:World) (hl:LinesAt w a ls) (e:ls.length=n) (hn:ls.length≤100000000) (hcap:ls.length≤cap) :
    Calls Tryz.prog 144 #[.slice a n cap] w fun e w'=>e=.returned (.bool (linesOk ls))∧Below w.heap.size w w':=by subst e;exact areLines_any a cap ls w hl hn hcap
theorem MBox.other {w:World} {B C j:Nat} {ty:TypeId} {v0 v1 v2 v:Value} (h:MBox B ty v0 v1 v2 w) (hn:B≠C):MBox B ty v0 v1 v2 (w.setCell ⟨C,j,none⟩ v):=setOther_heap h hn
theorem didRet {Q:Ending→World→Prop} {a:Act} {W:World} {B:Nat} {fz:Nat × Nat} {v0 v1 v2:Value} {er:Bool} (hB:W.heap[B]?=some (.cells #[v0,v1,v2] 176 fz))
    (ht:a.tmps[4]?=some (.pointer (some ⟨B,0,none⟩))) (he:a.tmps[5]?=some (.bool er)) (hd:a.defers=[]) (hq:Q (.returned (.tuple #[.agg #[v0,v1,v2],.bool er])) W):bodyPost Tryz.prog Tryz.f147 Q Exit.ret a W:=by
  have c0:W.cell? ⟨B,0,none⟩=some v0:=(cell_of_heap hB 0).trans rfl
  have c1:W.cell? ⟨B,1,none⟩=some v1:=(cell_of_heap hB 1).trans rfl
  have c2:W.cell? ⟨B,2,none⟩=some v2:=(cell_of_heap hB 2).trans rfl
  exact bodyPost_ret (v:=.tuple #[.agg #[v0,v1,v2],.bool er]) (by simp [results,Tryz.results147,go_sem,ht,he,c0,c1,c2]) hd hq
theorem does_any (m:Mm) (a:Option Addr) (cap:Nat) (body:List UInt8) (w:World) (hl:LinesAt w a m.ls) (hm:m.ls.length≤20) (hn:body.length≤100000000) :
    Calls Tryz.prog 147 #[m.val a cap,.string ⟨body.toArray⟩] w (DidM w m a cap body):=by
  have HL:=hid hl
  clear hl
  obtain ⟨view,last,ls⟩:=m
  dsimp only at HL hm
  have HV:Hid ((Mm.mk view last ls).val a cap=.agg #[.int .i64 view,.int .i64 last,.slice a ls.length cap]):=rfl
  rw [HV.out]
  by_cases h0:body.length=0
  · have HN:Hid (∀ w',Below w.heap.size w w'→DidM w ⟨view,last,ls⟩ a cap body (.returned (.tuple #[.agg #[.int .i64 view,.int .i64 last,.slice a ls.length cap],.bool false])) w'):=fun w' hb=>⟨hb,.inl ⟨by unfold doesM candM;rw [if_pos h0];rfl,by rw [HV.out]⟩⟩
    have hz:((body.length:Int) == 0)=true:=beq_iff_eq.2 (by omega)
    go_enter Tryz.func147,Tryz.ntmps147
    go_wp2
    exact didRet (heap_alloc2 _ _ _ _) rfl rfl rfl (HN.out _ (((Below.refl _ _).alloc (Nat.le_refl _) _).alloc (by simp) _))
  have hz:((body.length:Int) == 0)=false:=beq_eq_false_iff_ne.2 (by omega)
  have i0:∀ h,(⟨body.toArray⟩:ByteArray)[0]'h=body.getD 0 0:=fun h=>by rw [getD_at body 0 0 (by omega)];rfl
  have HC1:Hid ((body.getD 0 0).toNat=1→candM ⟨view,last,ls⟩ body=if tlOk (body.drop 1) && (tlRest (body.drop 1)).isEmpty then some ⟨view,last,ls++[tlLine (body.drop 1)]⟩ else none):=fun h=>by unfold candM;rw [if_neg h0,if_pos h]
  have HC2:Hid ((body.getD 0 0).toNat=2→candM ⟨view,last,ls⟩ body=if body.length=2 then some ⟨(body.getD 1 0).toNat,last,ls⟩ else none):=fun h=>by unfold candM;rw [if_neg h0,if_neg (by omega),if_pos h]
  have HC3:Hid ((body.getD 0 0).toNat=3→candM ⟨view,last,ls⟩ body=if body.length < 2 then none else if tsOk (body.drop 2) && (tsRest (body.drop 2)).isEmpty then some ⟨(body.getD 1 0).toNat,(body.getD 1 0).toNat,tsLines (body.drop 2)⟩ else none):=fun h=>by unfold candM;rw [if_neg h0,if_neg (by omega),if_neg (by omega),if_pos h]
  have HC4:Hid (¬ (body.getD 0 0).toNat=1→¬ (body.getD 0 0).toNat=2→¬ (body.getD 0 0).toNat=3→candM ⟨view,last,ls⟩ body=none):=fun h1 h2 h3=>by unfold candM;rw [if_neg h0,if_neg h1,if_neg h2,if_neg h3]
  generalize body.getD 0 0=z at i0 HC1 HC2 HC3 HC4
  have hzz:z.toNat < 256:=z.toNat_lt
  have hb1:(1:Int)≤(body.length:Int):=by omega
  have hb0:(0:Int) < (body.length:Int):=by omega
  have HRX:Hid ((⟨body.toArray⟩:ByteArray).extract 1 body.length=⟨(body.drop 1).toArray⟩):=by
    show _=_
    rw [extr,List.take_of_length_le (by rw [List.length_drop];omega)]
  obtain ⟨il,hil,hil0,hil1,hil2⟩:=info_parts Tryz.info27
  have HSRC:=hid (fun x (h:LinesAt x a ls)=>lines_src a cap ls x h)
  go_enter Tryz.func147,Tryz.ntmps147
  obtain ⟨X0,hX0⟩:∃ X0:World,X0=((w.alloc (.cells #[.int .i64 view,.int .i64 last,.slice a ls.length cap] 176)).alloc (.cells #[.int .i64 0,.int .i64 0,.slice none 0 0] 176)).alloc (.cells #[.int .i64 view,.int .i64 last,.slice none 0 0] 176):=⟨_,rfl⟩
  have HB0:Hid (Below w.heap.size w X0):=by show Below _ _ _;rw [hX0];exact (((Below.refl _ _).alloc (Nat.le_refl _) _).alloc (by simp) _).alloc (by simp;omega) _
  have HM0:Hid (MBox w.heap.size 176 (.int .i64 view) (.int .i64 last) (.slice a ls.length cap) X0∧MBox (w.heap.size+1) 176 (.int .i64 0) (.int .i64 0) (.slice none 0 0) X0∧MBox (w.heap.size+1+1) 176 (.int .i64 view) (.int .i64 last) (.slice none 0 0) X0):=by
    rw [hX0]
    exact ⟨MBox.below (MBox.below (heap_alloc_new w _) ((Below.refl _ _).alloc (Nat.le_refl _) _)) ((Below.refl _ _).alloc (Nat.le_refl _) _),MBox.below (heap_alloc2 w _ _ _) ((Below.refl _ _).alloc (Nat.le_refl _) _),heap_alloc3 w _ _ _ _⟩
  have HX0:=hid hX0
  clear hX0
  go_wp2_with (at_builtin;rw [← HX0.out];refine wpList_appN _ rfl (.tmp 21) (.tmp 23) 28 28 rfl 27 il (.agg #[.int .i64 0,.int .i64 0,.string ⟨#[]⟩]) 3 32 Tryz.underlying28 hil hil0 hil1 hil2 rfl (by rfl) _ rfl ls.length (lnCells ls) (HSRC.out _ (HL.out.below HB0.out)) (by omega) (by omega) ?_)
  intro g1 c1 w1 P
  have HO1:=hid P.lines
  have hb1:=P.below
  have HB1:=hid (HB0.out.trans (hb1.mono HB0.out.size))
  have HM1:=hid (And.intro (HM0.out.1.below hb1) (And.intro (HM0.out.2.1.below hb1) (HM0.out.2.2.below hb1)))
  have hgN:Hid (g1≠some (w.heap.size+1+1)):=fun e=>by have:=P.fresh _ e;have:=heap_lt HM0.out.2.2;omega
  clear P hb1
  have HRw:Hid (w.heap.size≤w.heap.size+1):=by show _≤_;omega
  have HNw:Hid (w.heap.size≤w.heap.size+1+1):=by show _≤_;omega
  have hRN:w.heap.size+1≠w.heap.size+1+1:=by omega
  have hMN:w.heap.size≠w.heap.size+1+1:=by omega
  have HNO:Hid (∀ w',doesM ⟨view,last,ls⟩ body=none→Below w.heap.size w w'→DidM w ⟨view,last,ls⟩ a cap body (.returned (.tuple #[.agg #[.int .i64 view,.int .i64 last,.slice a ls.length cap],.bool false])) w'):=fun w' h hb=>⟨hb,.inl ⟨h,by rw [HV.out]⟩⟩
  have HYES:Hid (∀ w' m' g c n (av:Option Addr),doesM ⟨view,last,ls⟩ body=some m'→n=m'.ls.length→av=g.map (fun k=>(⟨k,0,none⟩:Addr))→OwnLines w w' g c m'.ls→Below w.heap.size w w'→DidM w ⟨view,last,ls⟩ a cap body (.returned (.tuple #[.agg #[.int .i64 m'.view,.int .i64 m'.last,.slice av n c],.bool true])) w'):=fun w' m' g c n av h e1 e2 ho hb=>by
    subst e1;subst e2;exact ⟨hb,.inr ⟨m',g,c,h,rfl,ho⟩⟩
  have HgM1:Hid (g1≠some w.heap.size):=fun e=>by have:=HO1.out.new _ e;have:=heap_lt HM0.out.2.2;omega
  have hlt:w.heap.size < w1.heap.size∧w.heap.size+1 < w1.heap.size∧w.heap.size+1+1 < w1.heap.size:=⟨heap_lt HM1.out.1,heap_lt HM1.out.2.1,heap_lt HM1.out.2.2⟩
  have HgR1:Hid (g1≠some (w.heap.size+1)):=fun e=>by have:=HO1.out.new _ e;have:=heap_lt HM0.out.2.2;omega
  have OB1:Hid (OwnLines w w1 g1 c1 ls):=HO1.out.base HB0.out.size
  clear HX0 HSRC HM0 HO1
  generalize w.heap.size+1+1=N at *
  generalize w.heap.size+1=R at *
  obtain ⟨n0,n1,n2,fn⟩:=mbox_cells HM1.out.2.2
  obtain ⟨m0,m1,m2,fm⟩:=mbox_cells HM1.out.1
  obtain ⟨r0,r1,r2,fr⟩:=mbox_cells HM1.out.2.1
  unfold sl
  by_cases hz1:z.toNat=1
  · have zz1:((z.toNat:Int) == 1)=true:=beq_iff_eq.2 (by omega)
    have HD1:Hid (tlOk (body.drop 1)=false→doesM ⟨view,last,ls⟩ body=none):=fun h=>by unfold doesM;rw [HC1.out hz1,h];rfl
    have HD2:Hid (tlRest (body.drop 1)≠[]→doesM ⟨view,last,ls⟩ body=none):=fun h=>by
      unfold doesM;rw [HC1.out hz1]
      cases hh:tlRest (body.drop 1) with
      | nil=>exact absurd hh h
      | cons y ys=>simp
    have HD3':Hid (tlOk (body.drop 1)=true→tlRest (body.drop 1)=[]→doesM ⟨view,last,ls⟩ body=if okM ⟨view,last,ls++[tlLine (body.drop 1)]⟩ then some ⟨view,last,ls++[tlLine (body.drop 1)]⟩ else none):=fun h h2=>by
      unfold doesM;rw [HC1.out hz1,h,h2];simp
    clear hz1 HC1 HC2 HC3 HC4
    have hdl:(body.drop 1).length≤100000000:=by rw [List.length_drop];omega
    generalize body.drop 1=br at HD1 HD2 HD3' hdl HRX
    go_wp2_with fail
    rw [HRX.out]
    refine (lineAt_any br _ hdl).mono ?_
    rintro e w2 ⟨rfl,hb2⟩
    generalize hx:tlLine br=x at HD3' ⊢
    clear hx
    generalize hY1:w1.setCell ⟨N,2,none⟩ (.slice (g1.map fun g=>⟨g,0,none⟩) ls.length c1)=Y1 at hb2
    have sY1:Y1.heap.size=w1.heap.size:=by rw [← hY1];exact size_setCell _ _ _
    have BY1:Hid (Below w.heap.size w Y1):=by show Below _ _ _;rw [← hY1];exact HB1.out.setCell (p:=⟨N,2,none⟩) HNw.out _
    have N1:Hid (MBox N 176 (.int .i64 view) (.int .i64 last) (.slice (g1.map fun g=>⟨g,0,none⟩) ls.length c1) Y1):=by show MBox _ _ _ _ _ _;rw [← hY1];exact mset2 HM1.out.2.2 _
    have R1:Hid (MBox R 176 (.int .i64 0) (.int .i64 0) (.slice none 0 0) Y1):=by show MBox _ _ _ _ _ _;rw [← hY1];exact HM1.out.2.1.other hRN
    have M1:Hid (MBox w.heap.size 176 (.int .i64 view) (.int .i64 last) (.slice a ls.length cap) Y1):=by show MBox _ _ _ _ _ _;rw [← hY1];exact HM1.out.1.other hMN
    have OY1:Hid (OwnLines w Y1 g1 c1 ls):=by show OwnLines _ _ _ _ _;rw [← hY1];exact OB1.out.setOther N 2 _ hgN.out
    have hLb:w2.heap[w1.heap.size]?=some (.cells #[.int .i64 0,.int .i64 0,.string ⟨#[]⟩] 27 (0,0)):=by
      rw [hb2.block _ (by simp [sY1]),← sY1];exact heap_alloc_new Y1 _
    have b12:Hid (Below Y1.heap.size Y1 w2):=((Below.refl _ Y1).alloc (Nat.le_refl _) _).trans (hb2.mono (by simp))
    obtain ⟨l0,l1,l2,fl⟩:=mbox_cells hLb
    obtain ⟨n0',n1',n2',fn'⟩:=mbox_cells (N1.out.below b12.out)
    clear hY1 hb2 n0 n1 n2 fn m0 m1 m2 fm r0 r1 r2 fr HM1 OB1
    have HLb:=hid hLb
    have hs2:w1.heap.size < w2.heap.size:=heap_lt hLb
    clear hLb
    obtain ⟨X,hX⟩:∃ X:World,X=((((w2.setCell ⟨w1.heap.size,0,none⟩ (.int .i64 x.c)).setCell ⟨w1.heap.size,1,none⟩ (.int .i64 x.t)).setCell ⟨w1.heap.size,2,none⟩ (.string ⟨x.s.toArray⟩)).alloc (.cells #[.int .i64 x.c,.int .i64 x.t,.string ⟨x.s.toArray⟩] 27)):=⟨_,rfl⟩
    have bYX:Hid (Below Y1.heap.size Y1 X):=by
      show Below _ _ _
      rw [hX]
      exact (((b12.out.setCell (p:=⟨w1.heap.size,0,none⟩) (by rw [sY1];exact Nat.le_refl _) _).setCell (p:=⟨w1.heap.size,1,none⟩) (by rw [sY1];exact Nat.le_refl _) _).setCell (p:=⟨w1.heap.size,2,none⟩) (by rw [sY1];exact Nat.le_refl _) _).alloc (by rw [size_setCell,size_setCell,size_setCell];omega) _
    have OX:=hid (OY1.out.below bYX.out)
    have bwX:=hid (BY1.out.trans (bYX.out.mono BY1.out.size))
    have NX:=hid (N1.out.below bYX.out)
    have RX:=hid (R1.out.below bYX.out)
    have MX:=hid (M1.out.below bYX.out)
    have hXn:Hid (X.heap[w2.heap.size]?=some (.cells #[.int .i64 x.c,.int .i64 x.t,.string ⟨x.s.toArray⟩] 27 (0,0))):=by
      show _=_
      have:=heap_alloc_new (((w2.setCell ⟨w1.heap.size,0,none⟩ (.int .i64 x.c)).setCell ⟨w1.heap.size,1,none⟩ (.int .i64 x.t)).setCell ⟨w1.heap.size,2,none⟩ (.string ⟨x.s.toArray⟩)) (.cells #[.int .i64 x.c,.int .i64 x.t,.string ⟨x.s.toArray⟩] 27)
      rw [size_setCell,size_setCell,size_setCell] at this
      rw [hX];exact this
    have HX:=hid hX
    clear hX
    go_wp2_with (at_builtin;rw [← HX.out];refine wpList_app _ rfl (.tmp 40) (.tmp 42) 28 rfl 27 il (.agg #[.int .i64 0,.int .i64 0,.string ⟨#[]⟩]) 3 32 Tryz.underlying28 hil hil0 hil1 hil2 rfl g1 ls.length c1 (by rfl) OX.out.own ⟨w2.heap.size,0,none⟩ 1 1 [.int .i64 x.c,.int .i64 x.t,.string ⟨x.s.toArray⟩] rfl rfl ?c1 ?c2 (by omega) (by omega) (by omega) ?_)
    case c1=>exact World.news_of_block hXn.out
    case c2=>intro u hu;simp at hu;rcases hu with rfl | rfl | rfl <;> rfl
    intro g2 c2 w3 P
    have O3:=hid (OwnLines.app' OX.out bwX.out rfl P)
    have N3:=hid (NX.out.touch P.touch hgN.out)
    have R3:=hid (RX.out.touch P.touch HgR1.out)
    have M3:=hid (MX.out.touch P.touch HgM1.out)
    have hgN2:Hid ((some g2:Option Nat)≠some N):=fun e=>by
      rcases P.lies with q | q
      · exact hgN.out (q.trans e)
      · have:=heap_lt NX.out;have:=Option.some.inj e;omega
    have HgR:Hid ((some g2:Option Nat)≠some R):=fun e=>by
      rcases P.lies with q | q
      · exact HgR1.out (q.trans e)
      · have:=heap_lt RX.out;have:=Option.some.inj e;omega
    clear P l0 l1 l2 fl n0' n1' n2' fn'
    obtain ⟨n0,n1,n2,fn⟩:=mbox_cells N3.out
    have HXb:Hid (Below w.heap.size w (w3.setCell ⟨N,2,none⟩ (.slice (some ⟨g2,0,none⟩) (ls.length+1) c2))):=O3.out.2.setCell (p:=⟨N,2,none⟩) HNw.out _
    have HNb:=hid (mset2 N3.out (.slice (some ⟨g2,0,none⟩) (ls.length+1) c2))
    have HRb:=hid (R3.out.other (j:=2) (v:=.slice (some ⟨g2,0,none⟩) (ls.length+1) c2) hRN)
    have HMb:=hid (M3.out.other (j:=2) (v:=.slice (some ⟨g2,0,none⟩) (ls.length+1) c2) hMN)
    have HOx:=hid (O3.out.1.setOther N 2 (.slice (some ⟨g2,0,none⟩) (ls.length+1) c2) hgN2.out)
    have HLn:Hid ((ls++[x]).length=ls.length+1):=by show _=_;simp
    have HLen:Hid ((ls++[x]).length≤1000):=by show _≤_;simp;omega
    go_wp2_with fail
    refine (areLines_at (some ⟨g2,0,none⟩) (ls.length+1) c2 (ls++[x]) _ HOx.out.at_ HLn.out (by have:=HLen.out;omega) HOx.out.cap).mono ?_
    rintro e w9 ⟨rfl,hb9⟩
    have HW9:=hid (HXb.out.trans (hb9.mono HXb.out.size))
    have HR9:=hid (HRb.out.below hb9)
    have HM9:=hid (HMb.out.below hb9)
    have HN9:=hid (HNb.out.below hb9)
    have HO9:=hid (HOx.out.below hb9)
    clear hb9
    obtain ⟨r0,r1,r2,fr⟩:=mbox_cells HR9.out
    obtain ⟨m0,m1,m2,fm⟩:=mbox_cells HM9.out
    obtain ⟨n0,n1,n2,fn⟩:=mbox_cells HN9.out
    cases hok:tlOk br
    · have HD:Hid (doesM ⟨view,last,ls⟩ body=none):=HD1.out hok
      clear hok
      go_wp2
      exact didRet (mset2 (mset1 (mset0 HR9.out _) _) _) rfl rfl rfl (HNO.out _ HD.out (((HW9.out.setCell (p:=⟨R,0,none⟩) HRw.out _).setCell (p:=⟨R,1,none⟩) HRw.out _).setCell (p:=⟨R,2,none⟩) HRw.out _))
    have HD3:=hid (HD3'.out hok)
    clear hok
    cases hrs:tlRest br with
    | cons y ys =>
      have HD:Hid (doesM ⟨view,last,ls⟩ body=none):=HD2.out (by rw [hrs];simp)
      clear hrs
      go_wp2
      exact didRet (mset2 (mset1 (mset0 HR9.out _) _) _) rfl rfl rfl (HNO.out _ HD.out (((HW9.out.setCell (p:=⟨R,0,none⟩) HRw.out _).setCell (p:=⟨R,1,none⟩) HRw.out _).setCell (p:=⟨R,2,none⟩) HRw.out _))
    | nil =>
      have HDD:=hid (HD3.out hrs)
      clear hrs
      cases hlo:linesOk (ls++[x])
      · have HD:Hid (doesM ⟨view,last,ls⟩ body=none):=by show _=_;rw [HDD.out];simp [okM,hlo]
        clear hlo
        go_wp2
        exact didRet (mset2 (mset1 (mset0 HR9.out _) _) _) rfl rfl rfl (HNO.out _ HD.out (((HW9.out.setCell (p:=⟨R,0,none⟩) HRw.out _).setCell (p:=⟨R,1,none⟩) HRw.out _).setCell (p:=⟨R,2,none⟩) HRw.out _))
      rcases Int.lt_or_le view last with hv | hv
      · have HD:Hid (doesM ⟨view,last,ls⟩ body=none):=by
          show _=_
          rw [HDD.out];have:¬ (last≤view):=by omega
          simp [okM,this]
        clear hlo
        go_wp2
        exact didRet (mset2 (mset1 (mset0 HR9.out _) _) _) rfl rfl rfl (HNO.out _ HD.out (((HW9.out.setCell (p:=⟨R,0,none⟩) HRw.out _).setCell (p:=⟨R,1,none⟩) HRw.out _).setCell (p:=⟨R,2,none⟩) HRw.out _))
      rcases Int.lt_or_le 100 view with hv2 | hv2
      · have HD:Hid (doesM ⟨view,last,ls⟩ body=none):=by
          show _=_
          rw [HDD.out];have:¬ (view≤100):=by omega
          simp [okM,this]
        clear hlo
        go_wp2
        exact didRet (mset2 (mset1 (mset0 HR9.out _) _) _) rfl rfl rfl (HNO.out _ HD.out (((HW9.out.setCell (p:=⟨R,0,none⟩) HRw.out _).setCell (p:=⟨R,1,none⟩) HRw.out _).setCell (p:=⟨R,2,none⟩) HRw.out _))
      have HD:Hid (doesM ⟨view,last,ls⟩ body=some ⟨view,last,(ls++[x])⟩):=by show _=_;rw [HDD.out];simp [okM,hlo,hv,hv2]
      clear hlo
      go_wp2
      exact didRet (mset2 (mset1 (mset0 HR9.out _) _) _) rfl rfl rfl (HYES.out _ _ (some g2) c2 _ _ HD.out HLn.out.symm rfl (((HO9.out.setOther R 0 _ HgR.out).setOther R 1 _ HgR.out).setOther R 2 _ HgR.out) (((HW9.out.setCell (p:=⟨R,0,none⟩) HRw.out _).setCell (p:=⟨R,1,none⟩) HRw.out _).setCell (p:=⟨R,2,none⟩) HRw.out _))
  have zz1:((z.toNat:Int) == 1)=false:=beq_eq_false_iff_ne.2 (by omega)
  by_cases hz2:z.toNat=2
  · have zz2:((z.toNat:Int) == 2)=true:=beq_iff_eq.2 (by omega)
    by_cases hl1:body.length=1
    · have HD:Hid (doesM ⟨view,last,ls⟩ body=none):=by show _=_;unfold doesM;rw [HC2.out hz2,if_neg (by omega)];rfl
      have hbr:(body.drop 1).length=0:=by rw [List.length_drop];omega
      have hbz:(((body.drop 1).length:Int) == 0)=true:=beq_iff_eq.2 (by omega)
      have hbe:body.drop 1=[]:=List.eq_nil_of_length_eq_zero hbr
      rw [hbe] at HRX
      rw [hl1] at HRX
      clear hz1 hz2 HC1 HC2 HC3 HC4 hbr hbz hbe
      have hrx:=HRX.out
      go_wp2_with fail
      exact didRet (mset2 (mset1 (mset0 (HM1.out.2.1.other hRN) _) _) _) rfl rfl rfl (HNO.out _ HD.out ((((HB1.out.setCell (p:=⟨N,2,none⟩) HNw.out _).setCell (p:=⟨R,0,none⟩) HRw.out _).setCell (p:=⟨R,1,none⟩) HRw.out _).setCell (p:=⟨R,2,none⟩) HRw.out _))
    · skip
      have hbl:2≤body.length:=by omega
      have j0:∀ h,(⟨(body.drop 1).toArray⟩:ByteArray)[0]'h=body.getD 1 0:=fun h=>by rw [getD_at body 1 0 (by omega)];show (body.drop 1)[0]'_=_;rw [List.getElem_drop]
      have hrx2:(⟨(body.drop 1).toArray⟩:ByteArray).extract 1 (body.drop 1).length=⟨(body.drop 2).toArray⟩:=by
        rw [extr,List.drop_drop,List.take_of_length_le (by rw [List.length_drop,List.length_drop];omega)]
      have hbrl:(body.drop 1).length=body.length - 1:=by rw [List.length_drop]
      have hbz:(((body.drop 1).length:Int) == 0)=false:=beq_eq_false_iff_ne.2 (by omega)
      have hb1':(1:Int)≤((body.drop 1).length:Int):=by omega
      have hb0':(0:Int) < ((body.drop 1).length:Int):=by omega
      have hb00:0 < (body.drop 1).length:=by omega
      have hrx:=HRX.out
      have hdl2:(body.drop 2).length≤100000000:=by rw [List.length_drop];omega
      have HD2:Hid (body.drop 2≠[]→doesM ⟨view,last,ls⟩ body=none):=fun h=>by
        unfold doesM
        rw [HC2.out hz2,if_neg (fun e=>h (List.drop_eq_nil_of_le (by omega)))];rfl
      have HD3:Hid (body.drop 2=[]→doesM ⟨view,last,ls⟩ body=if okM ⟨(body.getD 1 0).toNat,last,ls⟩ then some ⟨(body.getD 1 0).toNat,last,ls⟩ else none):=fun h=>by
        have hl2:=congrArg List.length h
        rw [List.length_drop] at hl2
        simp only [List.length_nil] at hl2
        unfold doesM
        rw [HC2.out hz2,if_pos (by omega)];rfl
      generalize body.drop 2=br2 at HD2 HD3 hrx2 hdl2
      generalize body.drop 1=br at j0 hrx hrx2 hbz hb1' hb0' hb00
      generalize body.getD 1 0=v at j0 HD3
      have hv256:v.toNat < 256:=v.toNat_lt
      have wv:=wrap_byte v
      clear hbl hbrl hl1 hz1 hz2 HC1 HC2 HC3 HC4 HRX
      go_wp2_with fail
      generalize hX:(w1.setCell ⟨N,2,none⟩ (.slice (g1.map fun g=>⟨g,0,none⟩) ls.length c1)).setCell ⟨N,0,none⟩ (.int .i64 v.toNat)=X
      have HXb:Hid (Below w.heap.size w X):=by show Below _ _ _;rw [← hX];exact (HB1.out.setCell (p:=⟨N,2,none⟩) HNw.out _).setCell (p:=⟨N,0,none⟩) HNw.out _
      have HNb:Hid (MBox N 176 (.int .i64 v.toNat) (.int .i64 last) (.slice (g1.map fun g=>⟨g,0,none⟩) ls.length c1) X):=by show MBox _ _ _ _ _ _;rw [← hX];exact mset0 (mset2 HM1.out.2.2 _) _
      have HRb:Hid (MBox R 176 (.int .i64 0) (.int .i64 0) (.slice none 0 0) X):=by show MBox _ _ _ _ _ _;rw [← hX];exact (HM1.out.2.1.other hRN).other hRN
      have HMb:Hid (MBox w.heap.size 176 (.int .i64 view) (.int .i64 last) (.slice a ls.length cap) X):=by show MBox _ _ _ _ _ _;rw [← hX];exact (HM1.out.1.other hMN).other hMN
      have HOx:Hid (OwnLines w X g1 c1 ls):=by show OwnLines _ _ _ _ _;rw [← hX];exact (OB1.out.setOther N 2 _ hgN.out).setOther N 0 _ hgN.out
      have HgR:=HgR1
      have HLen:Hid (ls.length≤1000):=by show _≤_;omega
      clear hX n0 n1 n2 fn m0 m1 m2 fm r0 r1 r2 fr HM1 OB1
      refine (areLines_at (g1.map fun k=>(⟨k,0,none⟩:Addr)) ls.length c1 ls _ HOx.out.at_ rfl (by have:=HLen.out;omega) HOx.out.cap).mono ?_
      rintro e w9 ⟨rfl,hb9⟩
      have HW9:=hid (HXb.out.trans (hb9.mono HXb.out.size))
      have HR9:=hid (HRb.out.below hb9)
      have HM9:=hid (HMb.out.below hb9)
      have HN9:=hid (HNb.out.below hb9)
      have HO9:=hid (HOx.out.below hb9)
      clear hb9
      obtain ⟨r0,r1,r2,fr⟩:=mbox_cells HR9.out
      obtain ⟨m0,m1,m2,fm⟩:=mbox_cells HM9.out
      obtain ⟨n0,n1,n2,fn⟩:=mbox_cells HN9.out
      cases hrs:br2 with
      | cons y ys =>
        have HD:Hid (doesM ⟨view,last,ls⟩ body=none):=HD2.out (by rw [hrs];simp)
        clear hrs
        go_wp2
        exact didRet (mset2 (mset1 (mset0 HR9.out _) _) _) rfl rfl rfl (HNO.out _ HD.out (((HW9.out.setCell (p:=⟨R,0,none⟩) HRw.out _).setCell (p:=⟨R,1,none⟩) HRw.out _).setCell (p:=⟨R,2,none⟩) HRw.out _))
      | nil =>
        have HDD:=hid (HD3.out hrs)
        clear hrs
        cases hlo:linesOk ls
        · have HD:Hid (doesM ⟨view,last,ls⟩ body=none):=by show _=_;rw [HDD.out];simp [okM,hlo]
          clear hlo
          go_wp2
          exact didRet (mset2 (mset1 (mset0 HR9.out _) _) _) rfl rfl rfl (HNO.out _ HD.out (((HW9.out.setCell (p:=⟨R,0,none⟩) HRw.out _).setCell (p:=⟨R,1,none⟩) HRw.out _).setCell (p:=⟨R,2,none⟩) HRw.out _))
        rcases Int.lt_or_le (v.toNat:Int) last with hv | hv
        · have HD:Hid (doesM ⟨view,last,ls⟩ body=none):=by
            show _=_
            rw [HDD.out];have:¬ (last≤(v.toNat:Int)):=by omega
            simp [okM,this]
          clear hlo
          go_wp2
          exact didRet (mset2 (mset1 (mset0 HR9.out _) _) _) rfl rfl rfl (HNO.out _ HD.out (((HW9.out.setCell (p:=⟨R,0,none⟩) HRw.out _).setCell (p:=⟨R,1,none⟩) HRw.out _).setCell (p:=⟨R,2,none⟩) HRw.out _))
        rcases Int.lt_or_le 100 (v.toNat:Int) with hv2 | hv2
        · have HD:Hid (doesM ⟨view,last,ls⟩ body=none):=by
            show _=_
            rw [HDD.out];have:¬ ((v.toNat:Int)≤100):=by omega
            simp [okM,this]
          clear hlo
          go_wp2
          exact didRet (mset2 (mset1 (mset0 HR9.out _) _) _) rfl rfl rfl (HNO.out _ HD.out (((HW9.out.setCell (p:=⟨R,0,none⟩) HRw.out _).setCell (p:=⟨R,1,none⟩) HRw.out _).setCell (p:=⟨R,2,none⟩) HRw.out _))
        have HD:Hid (doesM ⟨view,last,ls⟩ body=some ⟨(v.toNat:Int),last,ls⟩):=by show _=_;rw [HDD.out];simp [okM,hlo,hv,hv2]
        clear hlo
        go_wp2
        exact didRet (mset2 (mset1 (mset0 HR9.out _) _) _) rfl rfl rfl (HYES.out _ _ g1 c1 _ _ HD.out rfl rfl (((HO9.out.setOther R 0 _ HgR.out).setOther R 1 _ HgR.out).setOther R 2 _ HgR.out) (((HW9.out.setCell (p:=⟨R,0,none⟩) HRw.out _).setCell (p:=⟨R,1,none⟩) HRw.out _).setCell (p:=⟨R,2,none⟩) HRw.out _))
  by_cases hz3:z.toNat=3
  · skip
    have zz2:((z.toNat:Int) == 2)=false:=beq_eq_false_iff_ne.2 (by omega)
    have zz3:((z.toNat:Int) == 3)=true:=beq_iff_eq.2 (by omega)
    by_cases hl1:body.length=1
    · have HD:Hid (doesM ⟨view,last,ls⟩ body=none):=by show _=_;unfold doesM;rw [HC3.out hz3,if_pos (by omega)];rfl
      have hbe:body.drop 1=[]:=List.eq_nil_of_length_eq_zero (by rw [List.length_drop];omega)
      rw [hbe] at HRX
      rw [hl1] at HRX
      have hrx:=HRX.out
      clear hz1 hz2 hz3 HC1 HC2 HC3 HC4 hbe
      go_wp2_with fail
      exact didRet (mset2 (mset1 (mset0 (HM1.out.2.1.other hRN) _) _) _) rfl rfl rfl (HNO.out _ HD.out ((((HB1.out.setCell (p:=⟨N,2,none⟩) HNw.out _).setCell (p:=⟨R,0,none⟩) HRw.out _).setCell (p:=⟨R,1,none⟩) HRw.out _).setCell (p:=⟨R,2,none⟩) HRw.out _))
    have hbl:2≤body.length:=by omega
    have j0:∀ h,(⟨(body.drop 1).toArray⟩:ByteArray)[0]'h=body.getD 1 0:=fun h=>by rw [getD_at body 1 0 (by omega)];show (body.drop 1)[0]'_=_;rw [List.getElem_drop]
    have hrx2:(⟨(body.drop 1).toArray⟩:ByteArray).extract 1 (body.drop 1).length=⟨(body.drop 2).toArray⟩:=by
      rw [extr,List.drop_drop,List.take_of_length_le (by rw [List.length_drop,List.length_drop];omega)]
    have hbrl:(body.drop 1).length=body.length - 1:=by rw [List.length_drop]
    have hbz:(((body.drop 1).length:Int) == 0)=false:=beq_eq_false_iff_ne.2 (by omega)
    have hb1':(1:Int)≤((body.drop 1).length:Int):=by omega
    have hb0':(0:Int) < ((body.drop 1).length:Int):=by omega
    have hb00:0 < (body.drop 1).length:=by omega
    have hrx:=HRX.out
    have hdl2:(body.drop 2).length≤100000000:=by rw [List.length_drop];omega
    have HCC:Hid (candM ⟨view,last,ls⟩ body=if tsOk (body.drop 2) && (tsRest (body.drop 2)).isEmpty then some ⟨(body.getD 1 0).toNat,(body.getD 1 0).toNat,tsLines (body.drop 2)⟩ else none):=by show _=_;rw [HC3.out hz3,if_neg (by omega)]
    have HD1:Hid (tsOk (body.drop 2)=false→doesM ⟨view,last,ls⟩ body=none):=fun h=>by unfold doesM;rw [HCC.out,h];rfl
    have HD2:Hid (tsRest (body.drop 2)≠[]→doesM ⟨view,last,ls⟩ body=none):=fun h=>by
      unfold doesM;rw [HCC.out]
      cases hh:tsRest (body.drop 2) with
      | nil=>exact absurd hh h
      | cons y ys=>simp
    have HD3':Hid (tsOk (body.drop 2)=true→tsRest (body.drop 2)=[]→doesM ⟨view,last,ls⟩ body=if okM ⟨(body.getD 1 0).toNat,(body.getD 1 0).toNat,tsLines (body.drop 2)⟩ then some ⟨(body.getD 1 0).toNat,(body.getD 1 0).toNat,tsLines (body.drop 2)⟩ else none):=fun h h2=>by
      unfold doesM;rw [HCC.out,h,h2];simp
    generalize body.drop 2=br2 at HD2 HD1 HD3' hrx2 hdl2
    generalize body.drop 1=br at j0 hrx hrx2 hbz hb1' hb0' hb00
    generalize body.getD 1 0=v at j0 HD3'
    have hv256:v.toNat < 256:=v.toNat_lt
    have wv:=wrap_byte v
    clear HCC hbl hbrl hl1 hz1 hz2 HC1 HC2 HC3 HC4 HRX hz3
    go_wp2_with fail
    refine (linesAt_any br2 _ hdl2).mono ?_
    rintro e w2 ⟨g2,c2,rfl,hol,hb2⟩
    have HLT:=hid (tsLines_len br2)
    generalize tsLines br2=LL at HLT HD3' hol ⊢
    generalize hX:((w1.setCell ⟨N,2,none⟩ (.slice (g1.map fun g=>⟨g,0,none⟩) ls.length c1)).setCell ⟨N,0,none⟩ (.int .i64 v.toNat)).setCell ⟨N,1,none⟩ (.int .i64 v.toNat)=X at hb2 hol
    have sX:X.heap.size=w1.heap.size:=by rw [← hX,size_setCell,size_setCell,size_setCell]
    have BX:Hid (Below w.heap.size w X):=by show Below _ _ _;rw [← hX];exact ((HB1.out.setCell (p:=⟨N,2,none⟩) HNw.out _).setCell (p:=⟨N,0,none⟩) HNw.out _).setCell (p:=⟨N,1,none⟩) HNw.out _
    have NX:Hid (MBox N 176 (.int .i64 v.toNat) (.int .i64 v.toNat) (.slice (g1.map fun g=>⟨g,0,none⟩) ls.length c1) X):=by show MBox _ _ _ _ _ _;rw [← hX];exact mset1 (mset0 (mset2 HM1.out.2.2 _) _) _
    have RX:Hid (MBox R 176 (.int .i64 0) (.int .i64 0) (.slice none 0 0) X):=by show MBox _ _ _ _ _ _;rw [← hX];exact ((HM1.out.2.1.other hRN).other hRN).other hRN
    have MX:Hid (MBox w.heap.size 176 (.int .i64 view) (.int .i64 last) (.slice a ls.length cap) X):=by show MBox _ _ _ _ _ _;rw [← hX];exact ((HM1.out.1.other hMN).other hMN).other hMN
    have HOL:Hid (OwnLines w w2 g2 c2 LL):=hol.base (by rw [sX];exact HB1.out.size)
    have hgN2:Hid (g2≠some N):=fun e=>by have:=hol.new _ e;rw [sX] at this;omega
    have HgR:Hid (g2≠some R):=fun e=>by have:=hol.new _ e;rw [sX] at this;omega
    obtain ⟨n0',n1',n2',fn'⟩:=mbox_cells (NX.out.below hb2)
    have N2:=hid (NX.out.below hb2)
    have HXb:Hid (Below w.heap.size w (w2.setCell ⟨N,2,none⟩ (.slice (g2.map fun g=>⟨g,0,none⟩) LL.length c2))):=(BX.out.trans (hb2.mono BX.out.size)).setCell (p:=⟨N,2,none⟩) HNw.out _
    have HNb:=hid (mset2 N2.out (.slice (g2.map fun g=>⟨g,0,none⟩) LL.length c2))
    have HRb:=hid ((RX.out.below hb2).other (j:=2) (v:=.slice (g2.map fun g=>⟨g,0,none⟩) LL.length c2) hRN)
    have HMb:=hid ((MX.out.below hb2).other (j:=2) (v:=.slice (g2.map fun g=>⟨g,0,none⟩) LL.length c2) hMN)
    have HOx:=hid (HOL.out.setOther N 2 (.slice (g2.map fun g=>⟨g,0,none⟩) LL.length c2) hgN2.out)
    have HLen:Hid (LL.length≤1000):=by show _≤_;have:=HLT.out;omega
    clear hX hol hb2 n0 n1 n2 fn m0 m1 m2 fm r0 r1 r2 fr HM1 OB1
    unfold sl
    go_wp2_with fail
    refine (areLines_at (g2.map fun k=>(⟨k,0,none⟩:Addr)) LL.length c2 LL _ HOx.out.at_ rfl (by have:=HLen.out;omega) HOx.out.cap).mono ?_
    rintro e w9 ⟨rfl,hb9⟩
    have HW9:=hid (HXb.out.trans (hb9.mono HXb.out.size))
    have HR9:=hid (HRb.out.below hb9)
    have HM9:=hid (HMb.out.below hb9)
    have HN9:=hid (HNb.out.below hb9)
    have HO9:=hid (HOx.out.below hb9)
    clear hb9
    obtain ⟨r0,r1,r2,fr⟩:=mbox_cells HR9.out
    obtain ⟨m0,m1,m2,fm⟩:=mbox_cells HM9.out
    obtain ⟨n0,n1,n2,fn⟩:=mbox_cells HN9.out
    cases hok:tsOk br2
    · have HD:Hid (doesM ⟨view,last,ls⟩ body=none):=HD1.out hok
      clear hok
      go_wp2
      exact didRet (mset2 (mset1 (mset0 HR9.out _) _) _) rfl rfl rfl (HNO.out _ HD.out (((HW9.out.setCell (p:=⟨R,0,none⟩) HRw.out _).setCell (p:=⟨R,1,none⟩) HRw.out _).setCell (p:=⟨R,2,none⟩) HRw.out _))
    have HD3:=hid (HD3'.out hok)
    clear hok
    cases hrs:tsRest br2 with
    | cons y ys =>
      have HD:Hid (doesM ⟨view,last,ls⟩ body=none):=HD2.out (by rw [hrs];simp)
      clear hrs
      go_wp2
      exact didRet (mset2 (mset1 (mset0 HR9.out _) _) _) rfl rfl rfl (HNO.out _ HD.out (((HW9.out.setCell (p:=⟨R,0,none⟩) HRw.out _).setCell (p:=⟨R,1,none⟩) HRw.out _).setCell (p:=⟨R,2,none⟩) HRw.out _))
    | nil =>
      have HDD:=hid (HD3.out hrs)
      clear hrs
      cases hlo:linesOk LL
      · have HD:Hid (doesM ⟨view,last,ls⟩ body=none):=by show _=_;rw [HDD.out];simp [okM,hlo]
        clear hlo
        go_wp2
        exact didRet (mset2 (mset1 (mset0 HR9.out _) _) _) rfl rfl rfl (HNO.out _ HD.out (((HW9.out.setCell (p:=⟨R,0,none⟩) HRw.out _).setCell (p:=⟨R,1,none⟩) HRw.out _).setCell (p:=⟨R,2,none⟩) HRw.out _))
      have hv:(v.toNat:Int)≤(v.toNat:Int):=Int.le_refl _
      rcases Int.lt_or_le 100 (v.toNat:Int) with hv2 | hv2
      · have HD:Hid (doesM ⟨view,last,ls⟩ body=none):=by
          show _=_
          rw [HDD.out];have:¬ ((v.toNat:Int)≤100):=by omega
          simp [okM,this]
        clear hlo
        go_wp2
        exact didRet (mset2 (mset1 (mset0 HR9.out _) _) _) rfl rfl rfl (HNO.out _ HD.out (((HW9.out.setCell (p:=⟨R,0,none⟩) HRw.out _).setCell (p:=⟨R,1,none⟩) HRw.out _).setCell (p:=⟨R,2,none⟩) HRw.out _))
      have HD:Hid (doesM ⟨view,last,ls⟩ body=some ⟨(v.toNat:Int),(v.toNat:Int),LL⟩):=by show _=_;rw [HDD.out];simp [okM,hlo,hv,hv2]
      clear hlo
      go_wp2
      exact didRet (mset2 (mset1 (mset0 HR9.out _) _) _) rfl rfl rfl (HYES.out _ _ g2 c2 _ _ HD.out rfl rfl (((HO9.out.setOther R 0 _ HgR.out).setOther R 1 _ HgR.out).setOther R 2 _ HgR.out) (((HW9.out.setCell (p:=⟨R,0,none⟩) HRw.out _).setCell (p:=⟨R,1,none⟩) HRw.out _).setCell (p:=⟨R,2,none⟩) HRw.out _))
  · have zz2:((z.toNat:Int) == 2)=false:=beq_eq_false_iff_ne.2 (by omega)
    have zz3:((z.toNat:Int) == 3)=false:=beq_eq_false_iff_ne.2 (by omega)
    have HD:Hid (doesM ⟨view,last,ls⟩ body=none):=by show _=_;unfold doesM;rw [HC4.out hz1 hz2 hz3];rfl
    clear hz1 hz2 hz3 HC1 HC2 HC3 HC4
    go_wp2
    exact didRet (mset2 (mset1 (mset0 (HM1.out.2.1.other hRN) _) _) _) rfl rfl rfl (HNO.out _ HD.out ((((HB1.out.setCell (p:=⟨N,2,none⟩) HNw.out _).setCell (p:=⟨R,0,none⟩) HRw.out _).setCell (p:=⟨R,1,none⟩) HRw.out _).setCell (p:=⟨R,2,none⟩) HRw.out _))
theorem OwnBytes.base {u w x:World} {g:Option Nat} {c:Nat} {l:List UInt8} (h:OwnBytes w x g c l) (hb:u.heap.size≤w.heap.size):OwnBytes u x g c l :=
  ⟨h.at_,h.own,fun k e=>Nat.le_trans hb (h.new k e)⟩
theorem packS_len (f:Fr):(packS f).length≤400:=by
  unfold packS
  split
  · rename_i h
    have:=Fr.body_len h
    unfold Fr.bytes withChk
    rw [List.length_append];simp;omega
  · simp
end
end Go.Proofs.YtolififimldmlaaGreat
