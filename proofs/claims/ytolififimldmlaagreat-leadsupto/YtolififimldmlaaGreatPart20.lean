import Derived.Test.YtolififimldmlaaGreatPart16
import Derived.Test.YtolififimldmlaaGreatPart05
set_option linter.unusedVariables false
set_option linter.unusedSimpArgs false
set_option maxRecDepth 100000
set_option maxHeartbeats 16000000
namespace Go.Proofs.YtolififimldmlaaGreat
section
open Go.RowKit
attribute [local go_sem ↓] Go.wp_at_zero Go.wp_at_succ
def AfterRet (wB w:World) (m:Mm) (g:Option Nat) (c:Nat) (cand:Option Mm) (e:Ending) (w':World):Prop :=
  OwnLines wB w' g c m.ls∧Touch (fun k=>g=some k) w w'∧((cand=none∧e=.returned (.tuple #[.agg #[.int .i64 0,.int .i64 0,.slice none 0 0],.bool false])) ∨
    ∃ n g' c',cand=some n∧e=.returned (.tuple #[n.val (g'.map fun k=>(⟨k,0,none⟩:Addr)) c',.bool true])∧OwnLines wB w' g' c' n.ls∧∀ k,g'=some k→g=some k∨w.heap.size≤k)
theorem lmRet {Q:Ending→World→Prop} {a:Act} {W:World} {B:Nat} {fz:Nat × Nat} {v0 v1 v2:Value} {er:Bool} (hB:W.heap[B]?=some (.cells #[v0,v1,v2] 94 fz))
    (ht:a.tmps[4]?=some (.pointer (some ⟨B,0,none⟩))) (he:a.tmps[5]?=some (.bool er)) (hd:a.defers=[]) (hq:Q (.returned (.tuple #[.agg #[v0,v1,v2],.bool er])) W):bodyPost Tryz.prog Tryz.f173 Q Exit.ret a W:=by
  have c0:W.cell? ⟨B,0,none⟩=some v0:=(cell_of_heap hB 0).trans rfl
  have c1:W.cell? ⟨B,1,none⟩=some v1:=(cell_of_heap hB 1).trans rfl
  have c2:W.cell? ⟨B,2,none⟩=some v2:=(cell_of_heap hB 2).trans rfl
  exact bodyPost_ret (v:=.tuple #[.agg #[v0,v1,v2],.bool er]) (by simp [results,Tryz.results173,go_sem,ht,he,c0,c1,c2]) hd hq
theorem avRet {Q:Ending→World→Prop} {a:Act} {W:World} {B:Nat} {fz:Nat × Nat} {v0 v1 v2:Value} {er:Bool} (hB:W.heap[B]?=some (.cells #[v0,v1,v2] 94 fz))
    (ht:a.tmps[4]?=some (.pointer (some ⟨B,0,none⟩))) (he:a.tmps[5]?=some (.bool er)) (hd:a.defers=[]) (hq:Q (.returned (.tuple #[.agg #[v0,v1,v2],.bool er])) W):bodyPost Tryz.prog Tryz.f174 Q Exit.ret a W:=by
  have c0:W.cell? ⟨B,0,none⟩=some v0:=(cell_of_heap hB 0).trans rfl
  have c1:W.cell? ⟨B,1,none⟩=some v1:=(cell_of_heap hB 1).trans rfl
  have c2:W.cell? ⟨B,2,none⟩=some v2:=(cell_of_heap hB 2).trans rfl
  exact bodyPost_ret (v:=.tuple #[.agg #[v0,v1,v2],.bool er]) (by simp [results,Tryz.results174,go_sem,ht,he,c0,c1,c2]) hd hq
theorem aaRet {Q:Ending→World→Prop} {a:Act} {W:World} {B:Nat} {fz:Nat × Nat} {v0 v1 v2:Value} {er:Bool} (hB:W.heap[B]?=some (.cells #[v0,v1,v2] 94 fz))
    (ht:a.tmps[2]?=some (.pointer (some ⟨B,0,none⟩))) (he:a.tmps[3]?=some (.bool er)) (hd:a.defers=[]) (hq:Q (.returned (.tuple #[.agg #[v0,v1,v2],.bool er])) W):bodyPost Tryz.prog Tryz.f175 Q Exit.ret a W:=by
  have c0:W.cell? ⟨B,0,none⟩=some v0:=(cell_of_heap hB 0).trans rfl
  have c1:W.cell? ⟨B,1,none⟩=some v1:=(cell_of_heap hB 1).trans rfl
  have c2:W.cell? ⟨B,2,none⟩=some v2:=(cell_of_heap hB 2).trans rfl
  exact bodyPost_ret (v:=.tuple #[.agg #[v0,v1,v2],.bool er]) (by simp [results,Tryz.results175,go_sem,ht,he,c0,c1,c2]) hd hq
theorem afRet {Q:Ending→World→Prop} {a:Act} {W:World} {B:Nat} {fz:Nat × Nat} {v0 v1 v2:Value} {er:Bool} (hB:W.heap[B]?=some (.cells #[v0,v1,v2] 94 fz))
    (ht:a.tmps[4]?=some (.pointer (some ⟨B,0,none⟩))) (he:a.tmps[5]?=some (.bool er)) (hd:a.defers=[]) (hq:Q (.returned (.tuple #[.agg #[v0,v1,v2],.bool er])) W):bodyPost Tryz.prog Tryz.f130 Q Exit.ret a W:=by
  have c0:W.cell? ⟨B,0,none⟩=some v0:=(cell_of_heap hB 0).trans rfl
  have c1:W.cell? ⟨B,1,none⟩=some v1:=(cell_of_heap hB 1).trans rfl
  have c2:W.cell? ⟨B,2,none⟩=some v2:=(cell_of_heap hB 2).trans rfl
  exact bodyPost_ret (v:=.tuple #[.agg #[v0,v1,v2],.bool er]) (by simp [results,Tryz.results130,go_sem,ht,he,c0,c1,c2]) hd hq
def candL (m:Mm) (b:List UInt8):Option Mm:=if tlOk b && (tlRest b).isEmpty then some ⟨m.view,m.last,m.ls++[tlLine b]⟩ else none
def candV (m:Mm) (b:List UInt8):Option Mm:=if b.length=1 then some ⟨(b.getD 0 0).toNat,m.last,m.ls⟩ else none
def candA (b:List UInt8):Option Mm:=if b.length=0 then none else if tsOk (b.drop 1) && (tsRest (b.drop 1)).isEmpty then some ⟨(b.getD 0 0).toNat,(b.getD 0 0).toNat,tsLines (b.drop 1)⟩ else none
theorem OwnLines.old {wB X w3:World} {g:Option Nat} {c n g' c':Nat} {ls:List Ln} {news:List Value} (h:OwnLines wB X g c ls) (hn:ls.length=n) (P:AppPost X w3 27 3 g n 1 news g' c') (ho:OwnRow w3 27 3 g n c):OwnLines wB w3 g c ls:=by
  refine ⟨fun j hj=>?_,by rw [hn];exact ho,h.new⟩
  obtain ⟨k,o,e,h0,h1,h2⟩:=h.at_ j hj
  have hk:=World.block_lt_of_cell? _ _ h0
  dsimp only at hk
  have ho0:o=0:=by
    cases g with
    | none=>cases e
    | some g0=>simp only [Option.map_some,Option.some.injEq,Addr.mk.injEq] at e;exact e.2.1.symm
  subst ho0
  refine ⟨k,0,e,(P.keep k _ hk ?_).trans h0,(P.keep k _ hk ?_).trans h1,(P.keep k _ hk ?_).trans h2⟩
  all_goals (rintro ⟨_,hle⟩;omega)
theorem afterLineMore_go (m:Mm) (g:Option Nat) (c:Nat) (a:Option Addr) (n cap:Nat) (b:List UInt8) (wB w0 w:World) (hO:OwnLines wB w g c m.ls) (hm:m.ls.length≤20) (hwB:wB.heap.size≤w.heap.size) (hb:BytesIn w0 a b) (hw:Below w0.heap.size w0 w) (hbl:b.length=n) (hn:b.length≤100000) (hcap:b.length≤cap) :
    Calls Tryz.prog 173 #[m.val (g.map fun k=>(⟨k,0,none⟩:Addr)) c,.slice a n cap] w (AfterRet wB w m g c (candL m b)):=by
  obtain ⟨view,last,ls⟩:=m
  dsimp only at hO hm
  have HO:=hid hO
  have HB:=hid hb
  have HW:=hid hw
  have HBL:=hid hbl
  clear hO hb hw hbl
  have HV:Hid ((Mm.mk view last ls).val (g.map fun k=>(⟨k,0,none⟩:Addr)) c=.agg #[.int .i64 view,.int .i64 last,.slice (g.map fun k=>⟨k,0,none⟩) ls.length c]):=rfl
  rw [HV.out]
  have HC:Hid (candL ⟨view,last,ls⟩ b=if tlOk b && (tlRest b).isEmpty then some ⟨view,last,ls++[tlLine b]⟩ else none):=rfl
  obtain ⟨il,hil,hil0,hil1,hil2⟩:=info_parts Tryz.info27
  go_enter Tryz.func173,Tryz.ntmps173
  go_wp2_with fail
  refine (takeLine_at a n cap b w0 _ HB.out ((HW.out.alloc HW.out.size _).alloc (by have:=HW.out.size;simp;omega) _) HBL.out (by omega) hcap).mono ?_
  rintro e w2 ⟨a2,cap2,rfl,hbi,hcp,hb2⟩
  have b02:Below w.heap.size w w2:=(((Below.refl _ w).alloc (Nat.le_refl _) _).alloc (by simp) _).trans (hb2.mono (by simp;omega))
  have M2:Hid (MBox w.heap.size 94 (.int .i64 view) (.int .i64 last) (.slice (g.map fun k=>⟨k,0,none⟩) ls.length c) w2):=MBox.below (MBox.below (heap_alloc_new w _) ((Below.refl _ _).alloc (Nat.le_refl _) _)) hb2
  have R2:Hid (MBox (w.heap.size+1) 94 (.int .i64 0) (.int .i64 0) (.slice none 0 0) w2):=MBox.below (heap_alloc2 w _ _ _) hb2
  have O2:=hid (HO.out.below b02)
  have B02:=hid b02
  have hgM:Hid (g≠some w.heap.size):=fun e=>by have:=HO.out.own.lt e;omega
  have hgR:Hid (g≠some (w.heap.size+1)):=fun e=>by have:=HO.out.own.lt e;omega
  have hMR:w.heap.size≠w.heap.size+1:=by omega
  have hRM:w.heap.size+1≠w.heap.size:=by omega
  clear hbi hcp hb2 b02
  obtain ⟨m0,m1,m2,fm⟩:=mbox_cells M2.out
  obtain ⟨r0,r1,r2,fr⟩:=mbox_cells R2.out
  have hMl:w.heap.size < w2.heap.size:=heap_lt M2.out
  have hRl:w.heap.size+1 < w2.heap.size:=heap_lt R2.out
  have HMw:Hid (w.heap.size≤w.heap.size+1):=by show _≤_;omega
  generalize w.heap.size+1=R at *
  unfold sla
  cases hok:tlOk b
  · have HN:Hid (candL ⟨view,last,ls⟩ b=none):=by show _=_;rw [HC.out,hok];rfl
    clear hok
    go_wp2
    exact lmRet (alloc_keep1 (mset2 (mset1 (mset0 R2.out _) _) _)) rfl rfl rfl ⟨(((O2.out.setOther R 0 _ hgR.out).setOther R 1 _ hgR.out).setOther R 2 _ hgR.out).below ((Below.refl _ _).alloc (Nat.le_refl _) _),
      ((((Touch.of_belowAll B02.out _).setCell (p:=⟨R,0,none⟩) (fun h=>absurd h (Nat.not_lt.2 HMw.out)) _).setCell (p:=⟨R,1,none⟩) (fun h=>absurd h (Nat.not_lt.2 HMw.out)) _).setCell (p:=⟨R,2,none⟩) (fun h=>absurd h (Nat.not_lt.2 HMw.out)) _).alloc _,.inl ⟨HN.out,rfl⟩⟩
  cases hr:tlRest b with
  | cons y ys =>
    have HN:Hid (candL ⟨view,last,ls⟩ b=none):=by show _=_;rw [HC.out,hok,hr];rfl
    clear hok hr
    go_wp2
    exact lmRet (alloc_keep1 (mset2 (mset1 (mset0 R2.out _) _) _)) rfl rfl rfl ⟨(((O2.out.setOther R 0 _ hgR.out).setOther R 1 _ hgR.out).setOther R 2 _ hgR.out).below ((Below.refl _ _).alloc (Nat.le_refl _) _),
      ((((Touch.of_belowAll B02.out _).setCell (p:=⟨R,0,none⟩) (fun h=>absurd h (Nat.not_lt.2 HMw.out)) _).setCell (p:=⟨R,1,none⟩) (fun h=>absurd h (Nat.not_lt.2 HMw.out)) _).setCell (p:=⟨R,2,none⟩) (fun h=>absurd h (Nat.not_lt.2 HMw.out)) _).alloc _,.inl ⟨HN.out,rfl⟩⟩
  | nil =>
    have HY:Hid (candL ⟨view,last,ls⟩ b=some ⟨view,last,ls++[tlLine b]⟩):=by show _=_;rw [HC.out,hok,hr];rfl
    clear hok hr HC
    generalize tlLine b=x at HY ⊢
    have hnl:w2.heap.size < (w2.alloc (.cells #[.int .i64 x.c,.int .i64 x.t,.string ⟨x.s.toArray⟩] 27)).heap.size:=by simp
    obtain ⟨X,hX⟩:∃ X:World,X=(w2.alloc (.cells #[.int .i64 x.c,.int .i64 x.t,.string ⟨x.s.toArray⟩] 27)).alloc (.cells #[.int .i64 x.c,.int .i64 x.t,.string ⟨x.s.toArray⟩] 27):=⟨_,rfl⟩
    have b2X:Hid (Below w2.heap.size w2 X):=by show Below _ _ _;rw [hX];exact ((Below.refl _ _).alloc (Nat.le_refl _) _).alloc (by simp) _
    have OX:=hid (O2.out.below b2X.out)
    have MX:=hid (M2.out.below b2X.out)
    have RX:=hid (R2.out.below b2X.out)
    have BX:=hid (B02.out.trans (b2X.out.mono B02.out.size))
    have hXn:Hid (X.heap[w2.heap.size+1]?=some (.cells #[.int .i64 x.c,.int .i64 x.t,.string ⟨x.s.toArray⟩] 27 (0,0))):=by show _=_;rw [hX];exact heap_alloc2 w2 _ _ _
    have HX:=hid hX
    clear hX
    go_wp2_with (at_builtin;rw [← HX.out];refine wpList_appK _ rfl (.tmp 24) (.tmp 26) 28 rfl 27 il (.agg #[.int .i64 0,.int .i64 0,.string ⟨#[]⟩]) 3 32 Tryz.underlying28 hil hil0 hil1 hil2 rfl g ls.length c (by rfl) OX.out.own ⟨w2.heap.size+1,0,none⟩ 1 1 [.int .i64 x.c,.int .i64 x.t,.string ⟨x.s.toArray⟩] rfl rfl ?c1 ?c2 (by omega) (by omega) (by omega) ?_)
    case c1=>exact World.news_of_block hXn.out
    case c2=>intro u hu;simp at hu;rcases hu with rfl | rfl | rfl <;> rfl
    intro g2 c2 w3 P hold
    have O3:Hid (OwnLines wB w3 (some g2) c2 (ls++[x])):=by
      refine ⟨OX.out.at_.app rfl P,?_,fun j e=>?_⟩
      · have:=P.own
        rw [List.length_append];exact this
      · have e:=Option.some.inj e
        subst e
        rcases P.lies with q | q
        · exact OX.out.new _ q
        · have:=BX.out.size;omega
    have OO3:=hid (OX.out.old rfl P hold)
    have M3:=hid (MX.out.touch P.touch hgM.out)
    have R3:=hid (RX.out.touch P.touch hgR.out)
    have T3:Hid (Touch (fun k=>g=some k) w w3):=(Touch.of_belowAll BX.out (fun _=>False)).mono (fun _ _ e=>e.elim) |>.trans P.touch (fun _ _ e=>e)
    have hg2M:Hid ((some g2:Option Nat)≠some w.heap.size):=fun e=>by
      rcases P.lies with q | q
      · exact hgM.out (q.trans e)
      · have:=heap_lt MX.out;have:=Option.some.inj e;omega
    have hg2R:Hid ((some g2:Option Nat)≠some R):=fun e=>by
      rcases P.lies with q | q
      · exact hgR.out (q.trans e)
      · have:=heap_lt RX.out;have:=Option.some.inj e;omega
    have HLI:Hid (∀ k,(some g2:Option Nat)=some k→g=some k∨w.heap.size≤k):=fun k e=>by
      have e:=Option.some.inj e
      subst e
      rcases P.lies with q | q
      · exact .inl q
      · exact .inr (Nat.le_trans BX.out.size q)
    clear P hold m0 m1 m2 fm r0 r1 r2 fr
    obtain ⟨m0,m1,m2,fm⟩:=mbox_cells M3.out
    obtain ⟨r0,r1,r2,fr⟩:=mbox_cells R3.out
    go_wp2
    refine lmRet (mset2 (mset1 (mset0 (R3.out.other hRM) _) _) _) rfl rfl rfl ⟨?_,?_,.inr ⟨⟨view,last,ls++[x]⟩,some g2,c2,HY.out,?_,?_,HLI.out⟩⟩
    · exact (((OO3.out.setOther w.heap.size 2 _ hgM.out).setOther R 0 _ hgR.out).setOther R 1 _ hgR.out).setOther R 2 _ hgR.out
    · exact (((T3.out.setCell (p:=⟨w.heap.size,2,none⟩) (fun h=>absurd h (Nat.lt_irrefl _)) _).setCell (p:=⟨R,0,none⟩) (fun h=>absurd h (Nat.not_lt.2 HMw.out)) _).setCell (p:=⟨R,1,none⟩) (fun h=>absurd h (Nat.not_lt.2 HMw.out)) _).setCell (p:=⟨R,2,none⟩) (fun h=>absurd h (Nat.not_lt.2 HMw.out)) _
    · show _=Ending.returned (.tuple #[.agg #[.int .i64 view,.int .i64 last,.slice (some ⟨g2,0,none⟩) (ls++[x]).length c2],.bool true])
      rw [List.length_append];rfl
    · exact (((O3.out.setOther w.heap.size 2 _ hg2M.out).setOther R 0 _ hg2R.out).setOther R 1 _ hg2R.out).setOther R 2 _ hg2R.out
def FrameRet (w:World) (b:List UInt8) (e:Ending) (w':World):Prop :=
  ∃ g c,e=.returned (.tuple #[(unpackF b).val (g.map fun k=>(⟨k,0,none⟩:Addr)) c,.bool (unpackR b).isSome])∧OwnLines w w' g c (unpackF b).lines∧Below w.heap.size w w'
theorem frameRet_no {w w':World} {b:List UInt8} (h:progR b=none) (hb:Below w.heap.size w w') :
    FrameRet w b (.returned (.tuple #[.agg #[.int .i64 0,.int .i64 0,.int .i64 0,.int .i64 0,.int .i64 0,.int .i64 0,.int .i64 0,.int .i64 0,.string ⟨#[]⟩,.slice none 0 0],.bool false])) w':=by
  rw [progR_eq] at h
  obtain ⟨e1,e2⟩:=un_no h
  refine ⟨none,0,?_,?_,hb⟩
  · rw [e1,h];rfl
  · rw [e1];exact OwnLines.none_ _ _
theorem frameRet_yes {w w':World} {b:List UInt8} {f:Fr} {g:Option Nat} {c:Nat} {v:Value} (h:progR b=some f) (hv:v=f.val (g.map fun k=>(⟨k,0,none⟩:Addr)) c) (ho:OwnLines w w' g c f.lines) (hb:Below w.heap.size w w') :
    FrameRet w b (.returned (.tuple #[v,.bool true])) w':=by
  rw [progR_eq] at h
  obtain ⟨e1,e2⟩:=un_yes h
  subst hv
  exact ⟨g,c,by rw [e1,h];rfl,by rw [e1];exact ho,hb⟩
theorem progRet {Q:Ending→World→Prop} {a:Act} {W:World} {B:Nat} {fz:Nat × Nat} {v0 v1 v2 v3 v4 v5 v6 v7 v8 v9:Value} {er:Bool} (hB:W.heap[B]?=some (.cells #[v0,v1,v2,v3,v4,v5,v6,v7,v8,v9] 30 fz))
    (ht:a.tmps[2]?=some (.pointer (some ⟨B,0,none⟩))) (he:a.tmps[3]?=some (.bool er)) (hd:a.defers=[]) (hq:Q (.returned (.tuple #[.agg #[v0,v1,v2,v3,v4,v5,v6,v7,v8,v9],.bool er])) W):bodyPost Tryz.prog Tryz.f33 Q Exit.ret a W:=by
  have c0:W.cell? ⟨B,0,none⟩=some v0:=(cell_of_heap hB 0).trans rfl
  have c1:W.cell? ⟨B,1,none⟩=some v1:=(cell_of_heap hB 1).trans rfl
  have c2:W.cell? ⟨B,2,none⟩=some v2:=(cell_of_heap hB 2).trans rfl
  have c3:W.cell? ⟨B,3,none⟩=some v3:=(cell_of_heap hB 3).trans rfl
  have c4:W.cell? ⟨B,4,none⟩=some v4:=(cell_of_heap hB 4).trans rfl
  have c5:W.cell? ⟨B,5,none⟩=some v5:=(cell_of_heap hB 5).trans rfl
  have c6:W.cell? ⟨B,6,none⟩=some v6:=(cell_of_heap hB 6).trans rfl
  have c7:W.cell? ⟨B,7,none⟩=some v7:=(cell_of_heap hB 7).trans rfl
  have c8:W.cell? ⟨B,8,none⟩=some v8:=(cell_of_heap hB 8).trans rfl
  have c9:W.cell? ⟨B,9,none⟩=some v9:=(cell_of_heap hB 9).trans rfl
  exact bodyPost_ret (v:=.tuple #[.agg #[v0,v1,v2,v3,v4,v5,v6,v7,v8,v9],.bool er]) (by simp [results,Tryz.results33,go_sem,ht,he,c0,c1,c2,c3,c4,c5,c6,c7,c8,c9]) hd hq
theorem strip_at (a:Option Addr) (n cap:Nat) (b:List UInt8) (w:World) (hb:BytesIn w a b) (e:b.length=n) (hn:b.length≤100000000) (hcap:b.length≤cap) :
    Calls Tryz.prog 73 #[.slice a n cap] w (Stripped w a cap b):=by subst e;exact strip_go a cap b w hb hn hcap
theorem mid_len (b:List UInt8):(midOf b).length=b.length - 2 - 6:=by unfold midOf;rw [List.length_take,List.length_drop];omega
theorem BytesIn.mid {w:World} {g o:Nat} {b:List UInt8} (h:BytesIn w (some ⟨g,o,none⟩) b):BytesIn w (some ⟨g,o+6,none⟩) (midOf b):=(h.drop 6).take _
theorem parseF_is (b:List UInt8):parseF b=⟨kindOf b,(b.getD 1 0).toNat,(b.getD 2 0).toNat,(b.getD 3 0).toNat,(b.getD 4 0).toNat,(b.getD 5 0).toNat,tkLine (kindOf b) (midOf b),tkLines (kindOf b) (midOf b)⟩:=rfl
theorem parseOk_is (b:List UInt8):parseOk b=(tkOk (kindOf b) (midOf b) && (tkRest (kindOf b) (midOf b)).isEmpty):=by
  unfold parseOk tkOk tkRest
  split
  · rfl
  · split <;> simp
theorem getD_take (b:List UInt8) (k n:Nat) (h:k < n):(b.take n).getD k 0=b.getD k 0:=by simp [List.getD,List.getElem?_take_of_lt h]
theorem framesUnpack_go (g o cap:Nat) (b:List UInt8) (w:World) (hb:BytesIn w (some ⟨g,o,none⟩) b) (hn:b.length≤10000000) (hcap:b.length≤cap) :
    Calls Tryz.prog 33 #[.slice (some ⟨g,o,none⟩) b.length cap] w (FrameRet w b):=by
  have HB:=hid hb
  clear hb
  go_enter Tryz.func33,Tryz.ntmps33
  go_wp2_with fail
  refine (strip_at _ _ cap b _ (HB.out.below ((Below.refl _ _).alloc (Nat.le_refl _) _)) rfl (by omega) hcap).mono ?_
  rintro e w1 ⟨rfl,hw1⟩
  have HX1:Hid (Box w.heap.size (.int .i64 0) (.int .i64 0) (.int .i64 0) (.int .i64 0) (.int .i64 0) (.int .i64 0) (.int .i64 0) (.int .i64 0) (.string ⟨#[]⟩) (.slice none 0 0) w1):=by
    show Box _ _ _ _ _ _ _ _ _ _ _ _
    rw [hw1];exact heap_alloc_new w _
  have HW1:Hid (Below w.heap.size w w1):=by show Below _ _ _;rw [hw1];exact (Below.refl _ _).alloc (Nat.le_refl _) _
  clear hw1
  obtain ⟨s0,s1,s2,s3,s4,s5,s6,s7,s8,s9⟩:=box_cells HX1.out
  have hf:∀ j,w1.frozen? ⟨w.heap.size,j,none⟩=false:=fun j=>frozen_of_heap HX1.out j
  cases hs:stripOk b
  · have HN:Hid (progR b=none):=by show _=_;unfold progR;rw [if_pos hs]
    simp only [Bool.false_eq_true,if_false]
    go_wp2
    refine progRet (set10 HX1.out rfl _ _ _ _ _ _ _ _ _ _) rfl rfl rfl (frameRet_no HN.out (below10 HW1.out (Nat.le_refl _) _ _ _ _ _ _ _ _ _ _))
  simp only [if_true]
  rcases Nat.lt_or_ge b.length 8 with h8 | h8
  · have HN:Hid (progR b=none):=by show _=_;unfold progR;rw [hs,if_pos h8];rfl
    have h82:b.length - 2 < 6:=by omega
    go_wp2
    refine progRet (set10 HX1.out rfl _ _ _ _ _ _ _ _ _ _) rfl rfl rfl (frameRet_no HN.out (below10 HW1.out (Nat.le_refl _) _ _ _ _ _ _ _ _ _ _))
  have HU:Hid (progR b=if parseOk b=false then none else if (parseF b).ok=false then none else some (parseF b)):=by
    show _=_
    unfold progR
    rw [hs,if_neg (by simp),if_neg (by omega)]
  clear hs s0 s1 s2 s3 s4 s5 s6 s7 s8 s9 hf
  obtain ⟨n,hbl⟩:∃ n,b.length=n+8:=⟨b.length - 8,by omega⟩
  have HBL:=hid hbl
  have e2:b.length - 2=n+6:=by omega
  rw [e2]
  have HF:=hid (parseF_is b)
  have HP:=hid (parseOk_is b)
  have HML:=hid (mid_len b)
  have HT:Hid (BytesIn w1 (some ⟨g,o,none⟩) (b.take (n+6))∧(b.take (n+6)).length=n+6):=⟨(HB.out.below HW1.out).take _,by rw [List.length_take];omega⟩
  have HTD:Hid (∀ k,k < 6→(b.take (n+6)).getD k 0=b.getD k 0):=fun k hk=>getD_take b k (n+6) (by omega)
  clear hbl e2 h8
  have hn6:¬ (n+6 < 6):=by omega
  have hi6:(6:Int)≤((n+6:Nat):Int):=by omega
  have hi62:(6:Int)≤(cap:Int):=by have:=HBL.out;omega
  have hcne:¬ cap=6:=by have:=HBL.out;omega
  go_wp2_with fail
  refine (takeHead_go g o (n+6) cap (b.take (n+6)) _ HT.out.1 (by have:=HT.out.2;omega) HT.out.2 (by have:=HBL.out;omega)).mono ?_
  rintro e w2 ⟨rfl,hb2⟩
  rw [HTD.out 0 (by omega),HTD.out 1 (by omega),HTD.out 2 (by omega),HTD.out 3 (by omega),HTD.out 4 (by omega),HTD.out 5 (by omega)]
  unfold kindOf at HF HP
  generalize b.getD 0 0=x0 at HF HP ⊢
  generalize b.getD 1 0=x1 at HF ⊢
  generalize b.getD 2 0=x2 at HF ⊢
  generalize b.getD 3 0=x3 at HF ⊢
  generalize b.getD 4 0=x4 at HF ⊢
  generalize b.getD 5 0=x5 at HF ⊢
  have HW2:=hid (HW1.out.trans (hb2.mono HW1.out.size))
  have HX2:=hid (Box.below HX1.out hb2)
  have hs2:w.heap.size < w2.heap.size:=heap_lt HX2.out
  clear hb2 HT HTD HX1
  go_wp2_with fail
  refine (takeLines_go w2.heap.size x0.toNat _ _ _ _ _ (some ⟨g,o+6,none⟩) n (cap - 6) (midOf b) _ (heap_alloc_new w2 _) ((HB.out.below HW2.out).mid.below ((Below.refl _ _).alloc (Nat.le_refl _) _)) (by have:=HML.out;have:=HBL.out;omega) (by have:=HML.out;have:=HBL.out;omega) (by have:=HML.out;have:=HBL.out;omega)).mono ?_
  rintro e w3 ⟨a',cap',gl,cl,rfl,hX3,hOL,hT⟩
  have HX3:=hid hX3
  have HOL:Hid (OwnLines w2 w3 gl cl (tkLines x0.toNat (midOf b))):=hOL.base (by simp)
  have hgP:Hid (gl≠some w2.heap.size):=fun e=>by have:=hOL.new _ e;simp at this;omega
  have hgR:Hid (gl≠some w.heap.size):=fun e=>by have:=hOL.new _ e;simp at this;omega
  have HW3:Hid (Below w.heap.size w w3):=(HW2.out.alloc HW2.out.size _).trans (hT.below (by have:=HW2.out.size;simp;omega) (fun k _ e=>by subst e;exact HW2.out.size))
  have HR3:Hid (Box w.heap.size (.int .i64 0) (.int .i64 0) (.int .i64 0) (.int .i64 0) (.int .i64 0) (.int .i64 0) (.int .i64 0) (.int .i64 0) (.string ⟨#[]⟩) (.slice none 0 0) w3):=Box.touch (Box.below HX2.out ((Below.refl _ _).alloc (Nat.le_refl _) _)) hT (fun e=>by omega)
  clear hX3 hOL hT HX2
  generalize w2.heap.size=P at *
  generalize midOf b=md at *
  obtain ⟨r0,r1,r2,r3,r4,r5,r6,r7,r8,r9⟩:=box_cells HR3.out
  have hfR:∀ j,w3.frozen? ⟨w.heap.size,j,none⟩=false:=fun j=>frozen_of_heap HR3.out j
  have HLL:Hid ((tkLines x0.toNat md).length≤256):=by
    show _≤_
    unfold tkLines
    split
    · exact tsLines_len md
    · simp
  cases hk:tkOk x0.toNat md
  · have HNo:Hid (progR b=none):=by show _=_;rw [HU.out,HP.out,hk];rfl
    go_wp2
    refine progRet (set10 HR3.out rfl _ _ _ _ _ _ _ _ _ _) rfl rfl rfl (frameRet_no HNo.out (below10 HW3.out (Nat.le_refl _) _ _ _ _ _ _ _ _ _ _))
  cases hr:tkRest x0.toNat md with
  | cons y ys =>
    have HNo:Hid (progR b=none):=by show _=_;rw [HU.out,HP.out,hk,hr];rfl
    go_wp2
    refine progRet (set10 HR3.out rfl _ _ _ _ _ _ _ _ _ _) rfl rfl rfl (frameRet_no HNo.out (below10 HW3.out (Nat.le_refl _) _ _ _ _ _ _ _ _ _ _))
  | nil =>
    have HPT:Hid (parseOk b=true):=by show _=_;rw [HP.out,hk,hr];rfl
    have HLS:Hid ((parseF b).lines=tkLines x0.toNat md):=by show _=_;rw [HF.out]
    have hlp:=HX3.out
    have hPl:P < w3.heap.size:=heap_lt hlp
    have hRl:w.heap.size < w3.heap.size:=heap_lt HR3.out
    have hfP:∀ j,w3.frozen? ⟨P,j,none⟩=false:=fun j=>frozen_of_heap hlp j
    clear hk hr hlp
    obtain ⟨s0,s1,s2,s3,s4,s5,s6,s7,s8,s9⟩:=box_cells HX3.out
    go_wp2_with fail
    refine (right_at (parseF b) (gl.map fun k=>(⟨k,0,none⟩:Addr)) cl _ (by rw [HLS.out];exact HOL.out.at_) (by rw [HLS.out];have:=HLL.out;omega) (by rw [HLS.out];exact HOL.out.cap) _ (by rw [HF.out];rfl)).mono ?_
    rintro e w4 ⟨rfl,hb4⟩
    have HX4:=hid (Box.below HX3.out hb4)
    have HR4:=hid (Box.below HR3.out hb4)
    have HW4:=hid (HW3.out.trans (hb4.mono HW3.out.size))
    have HO4:=hid (HOL.out.below hb4)
    clear s0 s1 s2 s3 s4 s5 s6 s7 s8 s9 r0 r1 r2 r3 r4 r5 r6 r7 r8 r9 hb4 hfR hfP
    obtain ⟨r0,r1,r2,r3,r4,r5,r6,r7,r8,r9⟩:=box_cells HR4.out
    obtain ⟨s0,s1,s2,s3,s4,s5,s6,s7,s8,s9⟩:=box_cells HX4.out
    have hfR:∀ j,w4.frozen? ⟨w.heap.size,j,none⟩=false:=fun j=>frozen_of_heap HR4.out j
    cases hok:(parseF b).ok
    · have HNo:Hid (progR b=none):=by show _=_;rw [HU.out,HPT.out,hok];rfl
      go_wp2
      refine progRet (set10 HR4.out rfl _ _ _ _ _ _ _ _ _ _) rfl rfl rfl (frameRet_no HNo.out (below10 HW4.out (Nat.le_refl _) _ _ _ _ _ _ _ _ _ _))
    · have HYes:Hid (progR b=some (parseF b)):=by show _=_;rw [HU.out,HPT.out,hok];rfl
      go_wp2
      refine progRet (set10 HR4.out rfl _ _ _ _ _ _ _ _ _ _) rfl rfl rfl (frameRet_yes (g:=gl) (c:=cl) HYes.out ?_ ?_ (below10 HW4.out (Nat.le_refl _) _ _ _ _ _ _ _ _ _ _))
      · rw [HF.out];rfl
      · rw [HLS.out];exact (HO4.out.base HW2.out.size).set10 hgR.out _ _ _ _ _ _ _ _ _ _
end
end Go.Proofs.YtolififimldmlaaGreat
