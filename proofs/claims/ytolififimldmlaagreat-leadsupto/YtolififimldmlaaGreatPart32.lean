import Derived.Test.YtolififimldmlaaGreatPart30
set_option linter.unusedVariables false
set_option linter.unusedSimpArgs false
set_option maxRecDepth 100000
set_option maxHeartbeats 16000000
namespace Go.Proofs.YtolififimldmlaaGreat
section
open Go.RowKit
attribute [local go_sem ↓] Go.wp_at_zero Go.wp_at_succ
theorem hearSayOkV (v:PV) (B:Nat) (w:World) (h:v.At w B) (n:Nat) (hkn:v.kp=n) (hk:v.kp=3∨v.kp=5) (hv:0≤v.m.view) (hin:v.m.last=v.m.view) (hme:v.m.view % v.kp=v.me) (hl:v.lost=[]) (narm:Int) (harm:(v.arm=0∧narm=0)∨(2≤v.arm∧v.arm≤9223372036854775807∧narm=v.arm - 1)) (l:Ln) (hf:l.fits)
    (ht:turnOf v.m.ls l.c < l.t) (h20:v.m.ls.length < 20) (hdl:v.d.length≤9900000) :
    Calls Tryz.prog 81 #[.pointer (some ⟨B,0,none⟩),.agg #[.int .i64 l.c,.int .i64 l.t,.string ⟨l.s.toArray⟩]] w fun e w'=>∃ g c gs cs gd' cd' gl' cl',e=.returned (sl g (othersL v.me n).length c)∧OwnOuts w w' g c ((othersL v.me n).map fun t=>⟨false,t,packS ⟨2,v.me,v.m.view,(v.m.ls.length+1:Nat),v.ag,0,l,[]⟩⟩) gs cs∧Chg w w' B v (v.more l narm gd' cd' gl' cl')∧∀ j,j < (othersL v.me n).length→∀ k,(g=some k∨gs j=some k)→¬ (v.more l narm gd' cd' gl' cl').own B k:=by
  have IH:=hid (fun z (hz:Below w.heap.size w z)=>isHeadV v B z (h.below hz) hv hk)
  have hb1:((v.m.last == v.m.view) && (v.m.view % v.kp == v.me))=true:=by rw [hin,hme];simp
  rw [hb1] at IH
  have LV:Hid (∀ z,Below w.heap.size w z→Calls Tryz.prog 83 #[.pointer (some ⟨B,0,none⟩)] z fun e w'=>e=.returned (sl v.gl v.m.ls.length v.cl)∧Below z.heap.size z w'):=fun z hz=>linesV v B z (h.below hz)
  have GV:Hid (∀ z,Below w.heap.size w z→Calls Tryz.prog 121 #[.slice (v.gl.map fun k=>⟨k,0,none⟩) v.m.ls.length v.cl,.int .i64 l.c] z fun e w'=>e=.returned (.int .i64 (turnOf v.m.ls l.c))∧Below z.heap.size z w'):=fun z hz=>greatest_any _ _ v.m.ls l.c z (h.below hz).lb (by omega)
  have MV:Hid (∀ z,Below w.heap.size w z→Calls Tryz.prog 123 #[.pointer (some ⟨B,3,none⟩),.agg #[.int .i64 l.c,.int .i64 l.t,.string ⟨l.s.toArray⟩]] z fun e w'=>∃ gd' cd' gl' cl',e=.returned (.bool true)∧Chg z w' B v (v.more l narm gd' cd' gl' cl')):=fun z hz=>lineMoreOkV v B z (h.below hz) hl narm harm l hf (by omega) hdl
  have HV:=hid h
  have hlt:¬ (l.t≤turnOf v.m.ls l.c):=by omega
  have h2z:((v.m.ls.length:Int) == 20)=false:=beq_eq_false_iff_ne.2 (by omega)
  have H20:=hid h20
  have HKN:=hid hkn
  have HK:=hid hk
  clear h hl harm ht h20 hdl hkn hk hv hin hme hb1
  obtain ⟨lc,lt,ls⟩:=l
  dsimp only at *
  generalize hT:turnOf v.m.ls lc=T at *
  go_enter Tryz.func81,Tryz.ntmps81
  go_wp2_with fail
  refine (IH.out _ ((Below.refl _ _).alloc (Nat.le_refl _) _)).mono ?_
  rintro e X0 ⟨rfl,hb0⟩
  rw [World.size_alloc] at hb0
  have HB0:Hid (Below w.heap.size w X0):=((Below.refl _ _).alloc (Nat.le_refl _) _).trans (hb0.mono (by omega))
  have HL0:Hid (X0.heap[w.heap.size]?=some (.cells #[.int .i64 lc,.int .i64 lt,.string ⟨ls.toArray⟩] 27 (0,0))):=by show _=_;rw [hb0.block _ (by omega)];exact heap_alloc_new w _
  clear hb0 IH
  go_wp2
  refine wp_region_held_drew (S:=fun z:World=>z.heap[w.heap.size]?=some (.cells #[.int .i64 lc,.int .i64 lt,.string ⟨ls.toArray⟩] 27 (0,0))) (by kernel_rfl) HL0.out (fun hS=>?_)
  refine tH 0 hS ?_
  try simp only [lA,lB,lC,Act.put,lD,lE,lF]
  refine tH 2 hS ?_
  try simp only [lA,lB,lC,Act.put,lD,lE,lF]
  refine tH 4 hS ?_
  try simp only [lA,lB,lC,Act.put,lD,lE,lF]
  refine tH 1 hS ?_ (hy:=by (intro w hw;have s0:=cell_of_heap hw 0;have s1:=cell_of_heap hw 1;have s2:=cell_of_heap hw 2;simp only [List.getElem?_toArray,List.getElem?_cons_zero,List.getElem?_cons_succ] at s0 s1 s2;clear hw;go_simp;try with_reducible rfl))
  try simp only [lA,lB,lC,Act.put,lD,lE,lF]
  refine tH 5 hS ?_ (hy:=by (intro w hw;have s0:=cell_of_heap hw 0;have s1:=cell_of_heap hw 1;have s2:=cell_of_heap hw 2;simp only [List.getElem?_toArray,List.getElem?_cons_zero,List.getElem?_cons_succ] at s0 s1 s2;clear hw;go_simp;try with_reducible rfl))
  try simp only [lA,lB,lC,Act.put,lD,lE,lF]
  refine wpAnyH_ready (rs:=[3]) (by kernel_rfl) (by simp) ?_
  refine AllReadyH.cons rfl (fun K hK=>?_) AllReadyH.nil
  go_simp
  refine (LV.out _ HB0.out.drew).mono ?_
  rintro e X1 ⟨rfl,hbf⟩
  have HB1:=hid (HB0.out.drew.trans (hbf.mono HB0.out.size))
  have HL1:=hid ((hbf.block _ (heap_lt HL0.out)).trans HL0.out)
  clear hbf
  refine hK.out _ _ HL1.out (fun hS=>?_)
  clear hK K
  unfold sl
  refine wpAnyH_ready (rs:=[6]) (by kernel_rfl) (by simp) ?_
  refine AllReadyH.cons rfl (fun K hK=>?_) AllReadyH.nil
  go_simp
  refine (GV.out _ HB1.out).mono ?_
  rintro e X2 ⟨rfl,hbf⟩
  have HB2:=hid (HB1.out.trans (hbf.mono HB1.out.size))
  have HL2:=hid ((hbf.block _ (heap_lt HL1.out)).trans HL1.out)
  clear hbf
  refine hK.out _ _ HL2.out (fun hS=>?_)
  clear hK K
  refine tH 7 hS ?_
  try simp only [lA,lB,lC,Act.put,lD,lE,lF]
  refine tH 8 hS ?_
  try simp only [lA,lB,lC,Act.put,lD,lE,lF]
  refine wpAnyH_done (by kernel_rfl) ?_ _
  clear hS
  go_wp2_with fail
  refine (LV.out _ HB2.out).mono ?_
  rintro e X3 ⟨rfl,hbf⟩
  have HB3:=hid (HB2.out.trans (hbf.mono HB2.out.size))
  have HL3:=hid ((hbf.block _ (heap_lt HL2.out)).trans HL2.out)
  clear hbf LV
  unfold sl
  have s0:=cell_of_heap HL3.out 0
  have s1:=cell_of_heap HL3.out 1
  have s2:=cell_of_heap HL3.out 2
  simp only [List.getElem?_toArray,List.getElem?_cons_zero,List.getElem?_cons_succ] at s0 s1 s2
  go_wp2
  go_still_tail 4,(by kernel_rfl)
  go_wp2_with fail
  refine (MV.out _ HB3.out.drew).mono ?_
  rintro e X4 ⟨gd',cd',gl',cl',rfl,hc⟩
  have HC:=hid (Chg.of HB3.out.drew HV.out hc)
  clear hc s0 s1 s2 MV
  have hU:(v.more ⟨lc,lt,ls⟩ narm gd' cd' gl' cl').At X4 B:=HC.out.at_
  have hul:(v.more ⟨lc,lt,ls⟩ narm gd' cd' gl' cl').m.ls.length=v.m.ls.length+1:=by show (v.m.ls++[_]).length=_;simp
  have hn5:n≤5:=by have:=HKN.out;have:=HK.out;omega
  have LU:Hid (Calls Tryz.prog 83 #[.pointer (some ⟨B,0,none⟩)] X4 fun e w'=>e=.returned (.slice (gl'.map fun k=>⟨k,0,none⟩) (v.m.ls.length+1) cl')∧Below X4.heap.size X4 w'):=by
    have:=linesV _ B X4 hU
    rw [hul] at this;exact this
  have PU:Hid (∀ z,Below X4.heap.size X4 z→Calls Tryz.prog 125 #[.pointer (some ⟨B,0,none⟩),.int .i64 (v.m.ls.length+1:Nat)] z fun e w'=>e=.returned (.agg #[.int .i64 v.me,.int .i64 v.m.view,.int .i64 (v.m.ls.length+1:Nat),.int .i64 v.ag,.int .i64 lc,.int .i64 lt,.string ⟨ls.toArray⟩])∧Below z.heap.size z w'):=fun z hz=>by
    have:=prepareV _ B z (hU.below hz) v.m.ls.length (by rw [hul];omega) (by rw [hul];have:=H20.out;omega)
    have e:(v.more ⟨lc,lt,ls⟩ narm gd' cd' gl' cl').m.ls[v.m.ls.length]'(by rw [hul];omega)=⟨lc,lt,ls⟩:=List.getElem_concat_length rfl _
    rw [e] at this
    exact this
  have TU:Hid (∀ z,Below X4.heap.size X4 z→Calls Tryz.prog 124 #[.pointer (some ⟨B,0,none⟩),.iface 153 (.agg #[.int .i64 v.me,.int .i64 v.m.view,.int .i64 (v.m.ls.length+1:Nat),.int .i64 v.ag,.int .i64 lc,.int .i64 lt,.string ⟨ls.toArray⟩])] z (OutsRet z ((othersL v.me n).map fun t=>⟨false,t,packS ⟨2,v.me,v.m.view,(v.m.ls.length+1:Nat),v.ag,0,⟨lc,lt,ls⟩,[]⟩⟩))):=fun z hz =>
    toOthersV _ B z (hU.below hz) n HKN.out hn5 _ _ (fun y _=>bytesPrepare v.me v.m.view (v.m.ls.length+1:Nat) v.ag lc lt ls y)
  have FIN:Hid (∀ z w',Below X4.heap.size X4 z→∀ e,OutsRet z ((othersL v.me n).map fun t=>⟨false,t,packS ⟨2,v.me,v.m.view,(v.m.ls.length+1:Nat),v.ag,0,⟨lc,lt,ls⟩,[]⟩⟩) e w'→∃ g c gs cs gd' cd' gl' cl',e=.returned (sl g (othersL v.me n).length c)∧OwnOuts w w' g c ((othersL v.me n).map fun t=>⟨false,t,packS ⟨2,v.me,v.m.view,(v.m.ls.length+1:Nat),v.ag,0,⟨lc,lt,ls⟩,[]⟩⟩) gs cs∧Chg w w' B v (v.more ⟨lc,lt,ls⟩ narm gd' cd' gl' cl')∧∀ j,j < (othersL v.me n).length→∀ k,(g=some k∨gs j=some k)→¬ (v.more ⟨lc,lt,ls⟩ narm gd' cd' gl' cl').own B k):=fun z w' hz e ho=>by
    obtain ⟨g,c,gs,cs,he,hoo,hb⟩:=ho
    rw [List.length_map] at he
    refine ⟨g,c,gs,cs,gd',cd',gl',cl',he,hoo.base (Nat.le_trans HC.out.tch.size hz.size),(HC.out.below hz).below hb,fun j hj k e3 e4=>?_⟩
    have h1:=hU.ownlt e4
    have h2:=hz.size
    rcases e3 with e3 | e3
    · have:=hoo.new k e3;omega
    · have:=(hoo.bs j (by rw [List.length_map];exact hj)).new k e3;omega
  clear hU hul H20 HKN HK HV HC hn5 h2z
  generalize hOO:((othersL v.me n).map fun t=>(⟨false,t,packS ⟨2,v.me,v.m.view,(v.m.ls.length+1:Nat),v.ag,0,⟨lc,lt,ls⟩,[]⟩⟩:OutG))=OO at *
  generalize hNN:v.m.ls.length+1=NN at *
  go_wp2_with fail
  refine LU.out.mono ?_
  rintro e X5 ⟨rfl,hb5⟩
  have HB5:=hid hb5
  clear hb5 LU
  go_wp2_with fail
  refine (PU.out _ HB5.out).mono ?_
  rintro e X6 ⟨rfl,hb6⟩
  have HB6:=hid (HB5.out.trans (hb6.mono HB5.out.size))
  clear hb6 PU
  go_wp2_with fail
  refine (TU.out _ HB6.out).mono ?_
  intro e X7 ho
  have HF:=hid (FIN.out X6 X7 HB6.out e ho)
  obtain ⟨g,c,gs,cs,rfl,_,_⟩:=ho
  clear FIN TU
  unfold sl at *
  have HOO:=hid hOO
  clear hOO
  go_wp2
  go_ret
  have e1:=HOO.out
  subst hNN
  subst e1
  exact HF.out
theorem isNaN_go (x:Int) (w:World):Calls Tryz.prog 254 #[.int .i64 x] w fun e w'=>e=.returned (.bool false)∧w'=w:=by
  have h:(x != x)=false:=by simp
  go_enter Tryz.func254,Tryz.ntmps254
  go_wp2
  go_ret
  exact ⟨ret_bool (by simp),rfl⟩
theorem less_go (x y:Int) (w:World):Calls Tryz.prog 223 #[.int .i64 x,.int .i64 y] w fun e w'=>e=.returned (.bool (decide (x < y)))∧Below w.heap.size w w':=by
  go_enter Tryz.func223,Tryz.ntmps223
  go_wp2_with fail
  refine (isNaN_go x w).mono ?_
  rintro e w1 ⟨rfl,hw⟩
  rw [hw]
  clear hw w1
  go_wp2
  go_ret
  exact ⟨rfl,Below.refl _ _⟩
def sink:List Int→Nat→List Int
  | l,0=>l
  | l,j+1=>if l.getD (j+1) 0 < l.getD j 0 then sink ((l.set (j+1) (l.getD j 0)).set j (l.getD (j+1) 0)) j else l
def sinks:Nat→List Int→Nat→List Int
  | 0,l,_=>l
  | f+1,l,i=>sinks f (sink l i) (i+1)
theorem sink_len (j:Nat):∀ l,(sink l j).length=l.length:=by
  induction j with
  | zero=>intro l;rfl
  | succ j ih =>
    intro l
    unfold sink
    split
    · rw [ih];simp
    · rfl
theorem OwnInts.set {w0 w:World} {g c j:Nat} {l:List Int} (h:OwnInts w0 w (some g) c l) (x:Int) (hj:j < l.length):OwnInts w0 (w.setCell ⟨g,j,none⟩ (.int .i64 x)) (some g) c (l.set j x):=by
  refine ⟨fun i hi=>⟨g,rfl,?_⟩,by rw [List.length_set];exact OwnRow.set h.own _ _,h.new⟩
  rw [List.length_set] at hi
  by_cases e:i=j
  · subst e
    rw [List.getElem_set_self]
    rcases h.own with ⟨q,_⟩ | ⟨g',cur,q,hh,q1,q2,q3⟩
    · cases q
    · cases q
      rw [cell_of_heap (heap_setCell hh i _),Array.getElem?_setIfInBounds_self_of_lt (by omega)]
  · rw [List.getElem_set_ne (fun h=>e h.symm),cell_set_ne _ (.inr (fun h=>e h.symm))]
    obtain ⟨k,ek,hc⟩:=h.at_ i hi
    cases ek
    exact hc
theorem OwnInts.cell {w0 w:World} {g c:Nat} {l:List Int} (h:OwnInts w0 w (some g) c l) (j:Nat) (hj:j < l.length):w.cell? ⟨g,j,none⟩=some (.int .i64 (l.getD j 0)):=by
  obtain ⟨k,ek,hc⟩:=h.at_ j hj
  cases ek
  rw [hc,List.getD_eq_getElem?_getD,List.getElem?_eq_getElem hj];rfl
theorem OwnInts.frozen {w0 w:World} {g c:Nat} {l:List Int} (h:OwnInts w0 w (some g) c l) (j:Nat):w.frozen? ⟨g,j,none⟩=false:=by
  rcases h.own with ⟨q,_⟩ | ⟨g',cur,q,hh,_⟩
  · cases q
  · cases q;exact frozen_of_heap hh j
theorem insSort_go (g c n:Nat) (l:List Int) (w0 w:World) (h:OwnInts w0 w (some g) c l) (hn:l.length=n) (h1:1≤n) (h12:n≤12) (hb:Below w0.heap.size w0 w) :
    Calls Tryz.prog 217 #[.slice (some ⟨g,0,none⟩) n c,.int .i64 0,.int .i64 n] w fun e w'=>e=.returned (.tuple #[])∧OwnInts w0 w' (some g) c (sinks (n - 1) l 1)∧Below w0.heap.size w0 w':=by
  have HO:=hid h
  have HB:=hid hb
  have HN:=hid hn
  clear h hb hn
  go_enter Tryz.func217,Tryz.ntmps217
  go_wp2
  go_loopw [6] (fun iv wr=>∃ (i:Nat) (r:List Int),1≤i∧i≤n∧iv=.int .i64 i∧Hid (r.length=n)∧Hid (sinks (n - i) r i=sinks (n - 1) l 1)∧Hid (OwnInts w0 wr (some g) c r)∧Hid (Below w0.heap.size w0 wr)) (fun iv _=>n - (intOf iv).toNat)
  case atStart=>exact ⟨1,l,Nat.le_refl _,h1,rfl,HN.out,rfl,HO.out,HB.out⟩
  case round =>
    obtain ⟨i,r,hi1,hin,rfl,HL,HS,HR,HW⟩:=hrel
    by_cases hlt:i < n
    · have b1:(i:Int) < (n:Int):=by omega
      go_wp2
      go_loopw [7] (fun jv wq=>∃ (j:Nat) (q:List Int),j≤i∧jv=.int .i64 j∧Hid (q.length=n)∧Hid (sink q j=sink r i)∧Hid (OwnInts w0 wq (some g) c q)∧Hid (Below w0.heap.size w0 wq)) (fun jv _=>(intOf jv).toNat)
      case atStart=>exact ⟨i,r,Nat.le_refl _,rfl,HL,rfl,HR,HW⟩
      case round =>
        obtain ⟨j,q,hji,rfl,HQL,HQS,HQ,HQB⟩:=hrel
        have HLL:=HQL.out
        cases j with
        | zero =>
          have HE:Hid (q=sink r i):=HQS.out
          go_wp2
          refine wp_region_any (by kernel_rfl) ?_
          try (change wpAny _ _ _ _ _ _ _ (World.drew _))
          refine tA 0 ?_
          try simp only [lA,lB,lC,Act.put,lD,lE,lF]
          refine tA 1 ?_
          try simp only [lA,lB,lC,Act.put,lD,lE,lF]
          refine tA 2 ?_
          try simp only [lA,lB,lC,Act.put,lD,lE,lF]
          refine tA 3 ?_
          try simp only [lA,lB,lC,Act.put,lD,lE,lF]
          refine sA 4 ?_
          try simp only [lA,lB,lC,Act.put,lD,lE,lF]
          refine sA 5 ?_
          try simp only [lA,lB,lC,Act.put,lD,lE,lF]
          refine sA 6 ?_
          try simp only [lA,lB,lC,Act.put,lD,lE,lF]
          refine sA 7 ?_
          try simp only [lA,lB,lC,Act.put,lD,lE,lF]
          refine sA 8 ?_
          try simp only [lA,lB,lC,Act.put,lD,lE,lF]
          refine sA 9 ?_
          try simp only [lA,lB,lC,Act.put,lD,lE,lF]
          refine sA 10 ?_
          try simp only [lA,lB,lC,Act.put,lD,lE,lF]
          refine sA 11 ?_
          try simp only [lA,lB,lC,Act.put,lD,lE,lF]
          refine sA 12 ?_
          try simp only [lA,lB,lC,Act.put,lD,lE,lF]
          refine sA 13 ?_
          try simp only [lA,lB,lC,Act.put,lD,lE,lF]
          refine tA 14 ?_
          try simp only [lA,lB,lC,Act.put,lD,lE,lF]
          refine wpAny_done (by kernel_rfl) ?_ _
          go_wp2
          go_roundw
          case rel =>
            refine ⟨i+1,q,by omega,by omega,by go_num,HQL.out,?_,HQ.out.below ((Below.refl _ _).drew),HQB.out.drew⟩
            show sinks (n - (i+1)) q (i+1)=_
            rw [HE.out,← HS.out,show n - i=(n - (i+1))+1 from by omega]
            rfl
          case measure=>simp [intOf];omega
        | succ k =>
          have x1:=HQ.out.cell (k+1) (by omega)
          have x0:=HQ.out.cell k (by omega)
          have wk:IntKind.i64.wrap (((k+1:Nat):Int) - 1)=(k:Int):=by rw [IntWalk.i64_left,IntWalk.wrap64_in _ (by omega)];omega
          have p0:(0:Int) < ((k+1:Nat):Int):=by omega
          have p1:(0:Int)≤((k+1:Nat):Int):=by omega
          have p2:((k+1:Nat):Int) < (n:Int):=by omega
          have p3:(0:Int)≤(k:Int):=by omega
          have p4:(k:Int) < (n:Int):=by omega
          have fz:=HQ.out.frozen
          have HSK:Hid (sink q (k+1)=if q.getD (k+1) 0 < q.getD k 0 then sink ((q.set (k+1) (q.getD k 0)).set k (q.getD (k+1) 0)) k else q):=rfl
          have HSW:Hid (∀ z,OwnInts w0 z (some g) c q→OwnInts w0 ((z.setCell ⟨g,k+1,none⟩ (.int .i64 (q.getD k 0))).setCell ⟨g,k,none⟩ (.int .i64 (q.getD (k+1) 0))) (some g) c ((q.set (k+1) (q.getD k 0)).set k (q.getD (k+1) 0))):=fun z hz=>(hz.set _ (by omega)).set _ (by rw [List.length_set];omega)
          have HSL:Hid (((q.set (k+1) (q.getD k 0)).set k (q.getD (k+1) 0)).length=n):=by show _=_;simp;exact HQL.out
          generalize hJ:((k+1:Nat):Int)=J at *
          have hJt:J.toNat=k+1:=by omega
          have wJ:IntKind.i64.wrap (J - 1)=(k:Int):=wk
          clear wk hJ
          generalize q.getD (k+1) 0=y1 at *
          generalize q.getD k 0=y0 at *
          go_wp2
          have HX1:=hid x1
          have HX0:=hid x0
          clear x1 x0
          refine wp_region_held_drew (S:=fun z:World=>z.cell? ⟨g,k+1,none⟩=some (.int .i64 y1)∧z.cell? ⟨g,k,none⟩=some (.int .i64 y0)) (by kernel_rfl) ⟨HX1.out,HX0.out⟩ (fun hS=>?_)
          refine tH 0 hS ?_
          try simp only [lA,lB,lC,Act.put,lD,lE,lF]
          refine tH 1 hS ?_
          try simp only [lA,lB,lC,Act.put,lD,lE,lF]
          refine tH 2 hS ?_
          try simp only [lA,lB,lC,Act.put,lD,lE,lF]
          refine tH 3 hS ?_
          try simp only [lA,lB,lC,Act.put,lD,lE,lF]
          refine tH 4 hS ?_
          try simp only [lA,lB,lC,Act.put,lD,lE,lF]
          refine tH 5 hS ?_
          try simp only [lA,lB,lC,Act.put,lD,lE,lF]
          refine tH 6 hS ?_
          try simp only [lA,lB,lC,Act.put,lD,lE,lF]
          refine tH 8 hS ?_
          try simp only [lA,lB,lC,Act.put,lD,lE,lF]
          refine tH 9 hS ?_
          try simp only [lA,lB,lC,Act.put,lD,lE,lF]
          refine tH 10 hS ?_
          try simp only [lA,lB,lC,Act.put,lD,lE,lF]
          refine tH 11 hS ?_
          try simp only [lA,lB,lC,Act.put,lD,lE,lF]
          refine tH 7 hS ?_ (hy:=by (intro w hw;obtain ⟨s1,s0⟩:=hw;go_simp;try with_reducible rfl))
          try simp only [lA,lB,lC,Act.put,lD,lE,lF]
          refine tH 12 hS ?_ (hy:=by (intro w hw;obtain ⟨s1,s0⟩:=hw;go_simp;try with_reducible rfl))
          try simp only [lA,lB,lC,Act.put,lD,lE,lF]
          refine wpAnyH_ready (rs:=[13]) (by kernel_rfl) (by simp) ?_
          refine AllReadyH.cons rfl (fun K hK=>?_) AllReadyH.nil
          go_simp
          refine (less_go y1 y0 _).mono ?_
          rintro e X1 ⟨rfl,hbf⟩
          have HBF:Hid (Below wr.heap.size wr X1):=(Below.refl _ wr).drew.trans hbf
          clear hbf
          have HQ1:=hid (HQ.out.below HBF.out)
          have x1:=(HBF.out.cell (World.block_lt_of_cell? _ _ HX1.out)).trans HX1.out
          have x0:=(HBF.out.cell (World.block_lt_of_cell? _ _ HX0.out)).trans HX0.out
          refine hK.out _ _ ⟨x1,x0⟩ (fun hS=>?_)
          clear hK K
          by_cases hlt2:y1 < y0
          · rw [decide_eq_true hlt2]
            have f1:=HQ1.out.frozen
            have HS2:Hid (sink ((q.set (k+1) y0).set k y1) k=sink r i):=by show _=_;rw [← HQS.out,HSK.out,if_pos hlt2]
            have HSW2:=hid (HSW.out X1.drew (HQ1.out.below ((Below.refl _ _).drew)))
            have HB3:Hid (Below w0.heap.size w0 ((X1.drew.setCell ⟨g,k+1,none⟩ (.int .i64 y0)).setCell ⟨g,k,none⟩ (.int .i64 y1))):=((HQB.out.trans (HBF.out.mono HQB.out.size)).drew.setCell (p:=⟨g,k+1,none⟩) (HQ.out.new g rfl) _).setCell (p:=⟨g,k,none⟩) (HQ.out.new g rfl) _
            clear fz hlt2 HSK HSW
            refine tH 14 hS ?_
            try simp only [lA,lB,lC,Act.put,lD,lE,lF]
            refine wpAnyH_done (by kernel_rfl) ?_ _
            go_wp2
            refine wp_region_any (by kernel_rfl) ?_
            try (change wpAny _ _ _ _ _ _ _ (World.drew _))
            refine tA 0 ?_
            try simp only [lA,lB,lC,Act.put,lD,lE,lF]
            refine tA 1 ?_
            try simp only [lA,lB,lC,Act.put,lD,lE,lF]
            refine tA 2 ?_
            try simp only [lA,lB,lC,Act.put,lD,lE,lF]
            refine tA 3 ?_
            try simp only [lA,lB,lC,Act.put,lD,lE,lF]
            refine tA 4 ?_
            try simp only [lA,lB,lC,Act.put,lD,lE,lF]
            refine tA 5 ?_
            try simp only [lA,lB,lC,Act.put,lD,lE,lF]
            refine tA 6 ?_
            try simp only [lA,lB,lC,Act.put,lD,lE,lF]
            refine tA 7 ?_
            try simp only [lA,lB,lC,Act.put,lD,lE,lF]
            refine tA 8 ?_
            try simp only [lA,lB,lC,Act.put,lD,lE,lF]
            refine tA 10 ?_
            try simp only [lA,lB,lC,Act.put,lD,lE,lF]
            refine tA 11 ?_
            try simp only [lA,lB,lC,Act.put,lD,lE,lF]
            refine tA 12 ?_
            try simp only [lA,lB,lC,Act.put,lD,lE,lF]
            refine wpAny_ready (rs:=[9,13]) (by kernel_rfl) (by simp) ?_
            refine AllReady.cons rfl (fun K hK=>?_) (AllReady.cons rfl (fun K hK=>?_) (AllReady.nil))
            · go_simp
              refine hK _ _ ?_
              clear hK K
              refine wpAny_ready (rs:=[13]) (by kernel_rfl) (by simp) ?_
              refine AllReady.cons rfl (fun K hK=>?_) (AllReady.nil)
              go_simp
              refine hK _ _ ?_
              clear hK K
              refine tA 14 ?_
              try simp only [lA,lB,lC,Act.put,lD,lE,lF]
              refine wpAny_ready (rs:=[15]) (by kernel_rfl) (by simp) ?_
              refine AllReady.cons rfl (fun K hK=>?_) AllReady.nil
              go_simp
              refine hK _ _ ?_
              clear hK K
              refine tA 16 ?_
              try simp only [lA,lB,lC,Act.put,lD,lE,lF]
              refine wpAny_ready (rs:=[17]) (by kernel_rfl) (by simp) ?_
              refine AllReady.cons rfl (fun K hK=>?_) AllReady.nil
              go_simp
              refine hK _ _ ?_
              clear hK K
              refine wpAny_done (by kernel_rfl) ?_ _
              go_wp2
              go_roundw
              case rel=>exact ⟨k,_,by omega,rfl,HSL.out,HS2.out,HSW2.out,HB3.out⟩
              case measure=>simp [intOf];omega
            · go_simp
              refine hK _ _ ?_
              clear hK K
              refine wpAny_ready (rs:=[9]) (by kernel_rfl) (by simp) ?_
              refine AllReady.cons rfl (fun K hK=>?_) (AllReady.nil)
              go_simp
              refine hK _ _ ?_
              clear hK K
              refine tA 14 ?_
              try simp only [lA,lB,lC,Act.put,lD,lE,lF]
              refine wpAny_ready (rs:=[15]) (by kernel_rfl) (by simp) ?_
              refine AllReady.cons rfl (fun K hK=>?_) AllReady.nil
              go_simp
              refine hK _ _ ?_
              clear hK K
              refine tA 16 ?_
              try simp only [lA,lB,lC,Act.put,lD,lE,lF]
              refine wpAny_ready (rs:=[17]) (by kernel_rfl) (by simp) ?_
              refine AllReady.cons rfl (fun K hK=>?_) AllReady.nil
              go_simp
              refine hK _ _ ?_
              clear hK K
              refine wpAny_done (by kernel_rfl) ?_ _
              go_wp2
              go_roundw
              case rel=>exact ⟨k,_,by omega,rfl,HSL.out,HS2.out,HSW2.out,HB3.out⟩
              case measure=>simp [intOf];omega
          · have HS2:Hid (q=sink r i):=by show _=_;rw [← HQS.out,HSK.out,if_neg hlt2]
            rw [decide_eq_false hlt2]
            clear HSK HSW
            refine tH 14 hS ?_
            try simp only [lA,lB,lC,Act.put,lD,lE,lF]
            refine wpAnyH_done (by kernel_rfl) ?_ _
            go_wp2
            go_roundw
            case rel =>
              refine ⟨i+1,q,by omega,by omega,by go_num,HQL.out,?_,HQ1.out,HQB.out.trans (HBF.out.mono HQB.out.size)⟩
              show sinks (n - (i+1)) q (i+1)=_
              rw [HS2.out,← HS.out,show n - i=(n - (i+1))+1 from by omega]
              rfl
            case measure=>simp [intOf];omega
    · have hni:n=i:=by omega
      have HE:Hid (r=sinks (n - 1) l 1):=by
        show _=_
        rw [← HS.out,show n - i=0 from by omega]
        rfl
      go_wp2
      go_end0
      exact ⟨rfl,by rw [← HE.out];exact HR.out,HW.out⟩
theorem len64_go (n:Nat) (hn:n=2∨n=4) (w:World):Calls Tryz.prog 227 #[.int .u64 n] w fun e w'=>(∃ x:Int,e=.returned (.int .i64 x))∧w'=w:=by
  rcases hn with rfl | rfl
  all_goals
    go_enter Tryz.func227,Tryz.ntmps227
    go_wp2
    go_ret
    exact ⟨⟨_,rfl⟩,rfl⟩
theorem len_go (n:Nat) (hn:n=2∨n=4) (w:World):Calls Tryz.prog 209 #[.int .u64 n] w fun e w'=>(∃ x:Int,e=.returned (.int .i64 x))∧w'=w:=by
  have HL:=hid (len64_go n hn w)
  clear hn
  go_enter Tryz.func209,Tryz.ntmps209
  go_wp2_with fail
  refine HL.out.mono ?_
  rintro e w1 ⟨⟨x,rfl⟩,hw⟩
  rw [hw]
  clear hw w1
  go_wp2
  go_ret
  exact ⟨⟨_,rfl⟩,rfl⟩
theorem pdq_go (g c n:Nat) (x:Int) (l:List Int) (w0 w:World) (h:OwnInts w0 w (some g) c l) (hn:l.length=n) (h1:1≤n) (h12:n≤12) (hb:Below w0.heap.size w0 w) :
    Calls Tryz.prog 208 #[.slice (some ⟨g,0,none⟩) n c,.int .i64 0,.int .i64 n,.int .i64 x] w fun e w'=>e=.returned (.tuple #[])∧OwnInts w0 w' (some g) c (sinks (n - 1) l 1)∧Below w0.heap.size w0 w':=by
  have HI:=hid (insSort_go g c n l w0 w h hn h1 h12 hb)
  clear h hb hn
  have b1:(n:Int)≤12:=by omega
  go_enter Tryz.func208,Tryz.ntmps208
  go_wp2
  go_loopw [1,2] (fun av bv wr=>av=.int .i64 0∧bv=.int .i64 n∧w=wr) (fun _ _ _=>0)
  case atStart=>exact ⟨rfl,rfl,rfl⟩
  case round =>
    obtain ⟨rfl,rfl,rfl⟩:=hrel
    go_wp2_with fail
    refine HI.out.mono ?_
    rintro e w1 ⟨rfl,h1,h2⟩
    have H1:=hid h1
    have H2:=hid h2
    clear h1 h2 HI
    go_wp2
    refine bodyPost_ret (v:=.tuple #[]) ?_ rfl ⟨rfl,H1.out,H2.out⟩
    simp [results,Tryz.results208,go_sem]
theorem sort_go (g c n:Nat) (l:List Int) (w0 w:World) (h:OwnInts w0 w (some g) c l) (hn:l.length=n) (h24:n=2∨n=4) (hb:Below w0.heap.size w0 w) :
    Calls Tryz.prog 204 #[.slice (some ⟨g,0,none⟩) n c] w fun e w'=>e=.returned (.tuple #[])∧OwnInts w0 w' (some g) c (sinks (n - 1) l 1)∧Below w0.heap.size w0 w':=by
  have HP:Hid (∀ x:Int,Calls Tryz.prog 208 #[.slice (some ⟨g,0,none⟩) n c,.int .i64 0,.int .i64 n,.int .i64 x] w fun e w'=>e=.returned (.tuple #[])∧OwnInts w0 w' (some g) c (sinks (n - 1) l 1)∧Below w0.heap.size w0 w'):=fun x=>pdq_go g c n x l w0 w h hn (by omega) (by omega) hb
  have HL:=hid (len_go n h24 w)
  have wn:IntKind.u64.wrap (n:Int)=(n:Int):=by rcases h24 with rfl | rfl <;> decide
  clear h hb hn h24
  go_enter Tryz.func204,Tryz.ntmps204
  go_wp2_with fail
  refine HL.out.mono ?_
  rintro e w1 ⟨⟨x,rfl⟩,hw⟩
  rw [hw]
  clear hw w1
  go_wp2_with fail
  refine (HP.out x).mono ?_
  rintro e w1 ⟨rfl,h1,h2⟩
  have H1:=hid h1
  have H2:=hid h2
  clear h1 h2 HP HL
  go_wp2
  go_end0
  exact ⟨rfl,H1.out,H2.out⟩
theorem othersL_len1 {me:Int}:∀ n:Nat,0≤me→(othersL me n).length=if me < n then n - 1 else n:=by
  intro n h0
  induction n with
  | zero=>simp [othersL]
  | succ n ih =>
    unfold othersL
    rw [List.length_append,ih]
    by_cases e:(n:Int)=me
    · rw [if_pos e,if_neg (by omega),if_pos (by omega)];simp
    · rw [if_neg e]
      by_cases h:me < n
      · rw [if_pos h,if_pos (by omega)];simp;omega
      · rw [if_neg h,if_neg (by omega)];simp
theorem holds_cell {v:PV} {w:World} {B:Nat} (h:v.At w B) (t:Int) (h0:0≤t) (h5:t < 5):w.cell? ⟨B,10+t.toNat,none⟩=some (.int .i64 (v.hs t.toNat)):=by
  have:t=0∨t=1∨t=2∨t=3∨t=4:=by omega
  rcases this with rfl | rfl | rfl | rfl | rfl
  · exact cell_of_heap h.blk 10
  · exact cell_of_heap h.blk 11
  · exact cell_of_heap h.blk 12
  · exact cell_of_heap h.blk 13
  · exact cell_of_heap h.blk 14
def heldFew (hs:Nat→Int) (me:Int) (n:Nat):Int:=(sinks (n - 2) ((othersL me n).map fun t=>hs t.toNat) 1).getD (n - 1 - n / 2) 0
theorem sinks_len (f:Nat):∀ l i,(sinks f l i).length=l.length:=by
  induction f with
  | zero=>intro l i;rfl
  | succ f ih=>intro l i;unfold sinks;rw [ih,sink_len]
theorem heldByFewV (v:PV) (B:Nat) (w:World) (h:v.At w B) (n:Nat) (hkn:v.kp=n) (h35:n=3∨n=5) (hme:0≤v.me∧v.me < n) :
    Calls Tryz.prog 195 #[.pointer (some ⟨B,0,none⟩)] w fun e w'=>e=.returned (.int .i64 (heldFew v.hs v.me n))∧Below w.heap.size w w':=by
  have OV:=hid (othersV v B w h n hkn (by omega))
  have FV:Hid (∀ z,Below w.heap.size w z→Calls Tryz.prog 199 #[.pointer (some ⟨B,0,none⟩)] z fun e w'=>e=.returned (.int .i64 (n / 2:Nat))∧Below z.heap.size z w'):=fun z hz=>by
    have:=fewV v B z (h.below hz) (by omega)
    rw [hkn] at this
    exact this
  have hlen:=othersL_len1 (me:=v.me) n hme.1
  rw [if_pos hme.2] at hlen
  have HC:Hid (∀ z,Below w.heap.size w z→∀ t ∈ othersL v.me n,0≤t∧t < 5∧z.cell? ⟨B,10+t.toNat,none⟩=some (.int .i64 (v.hs t.toNat))):=fun z hz t ht=>by
    have:=othersL_mem ht
    exact ⟨this.1,by omega,holds_cell (h.below hz) t this.1 (by omega)⟩
  have HFW:Hid (heldFew v.hs v.me n=(sinks (n - 2) ((othersL v.me n).map fun t=>v.hs t.toNat) 1).getD (n - 1 - n / 2) 0):=rfl
  obtain ⟨ii,hii,hii0,hii1,hii2⟩:=info_parts Tryz.info3
  clear h hkn hme
  generalize heldFew v.hs v.me n=HF at *
  generalize othersL v.me n=L at *
  have HLN:=hid hlen
  clear hlen
  have HLE:Hid (L.length≤4):=by have:=HLN.out;show _≤_;omega
  go_enter Tryz.func195,Tryz.ntmps195
  go_wp2_with fail
  refine OV.out.mono ?_
  rintro e X0 ⟨gi,ci,rfl,hoi,hb0⟩
  have HOI:=hid hoi
  have HB0:=hid hb0
  clear hoi hb0 OV
  unfold sl
  go_wp2
  go_loopw [3,9] (fun r i wr=>∃ (k:Nat) (g:Option Nat) (c:Nat),k≤L.length∧i=.int .i64 k∧r=.slice (g.map fun q=>⟨q,0,none⟩) k c∧Hid (OwnInts X0 wr g c ((L.take k).map fun t=>v.hs t.toNat))∧Hid (Below X0.heap.size X0 wr)) (fun _ i _=>L.length - (intOf i).toNat)
  case atStart=>exact ⟨0,none,0,Nat.zero_le _,rfl,rfl,OwnInts.none_ _ _,Below.refl _ _⟩
  case round =>
    obtain ⟨k,g,c,hk,rfl,rfl,HO,HB⟩:=hrel
    by_cases hlt:k < L.length
    · have b0:(0:Int)≤(k:Int):=by omega
      have b1:(k:Int) < (L.length:Int):=by omega
      obtain ⟨gg,he,hc⟩:=(HOI.out.below HB.out).at_ k hlt
      subst he
      simp only [Option.map_some]
      have hkl:((L.take k).map fun t=>v.hs t.toNat).length=k:=by rw [List.length_map,List.length_take];omega
      have htk:Hid (L.take (k+1)=L.take k++[L[k]]):=by show _=_;rw [List.take_add_one,List.getElem?_eq_getElem hlt];rfl
      obtain ⟨t0,t5,tc⟩:=HC.out wr (HB0.out.trans (HB.out.mono HB0.out.size)) L[k] (List.getElem_mem hlt)
      generalize L[k]=t at *
      have HOW:Hid (OwnRow (wr.alloc (.cells #[.int .i64 (v.hs t.toNat)] 3)) 3 1 g k c):=by have:=HO.out.own.alloc (.cells #[.int .i64 (v.hs t.toNat)] 3);rw [hkl] at this;exact this
      have HKL:=hid hkl
      have h4:k≤4:=by have:=HLE.out;omega
      clear hkl
      go_wp2_with (at_builtin;refine wpList_app _ rfl (.tmp 13) (.tmp 20) 221 rfl 3 ii (.int .i64 0) 1 8 Tryz.underlying221 hii hii0 hii1 hii2 rfl g k c (by rfl) HOW.out ⟨wr.heap.size,0,none⟩ 1 1 [.int .i64 (v.hs t.toNat)] rfl rfl ?c1 ?c2 (by omega) (by omega) (by omega) ?_)
      case c1=>exact World.news_of_block (heap_alloc_new wr _)
      case c2=>intro u hu;simp at hu;subst hu;rfl
      intro g2 c2 w3 Q
      have HA:=hid (HO.out.app HB.out HKL.out Q)
      clear Q
      go_wp2
      go_roundw
      case rel=>exact ⟨k+1,some g2,c2,by omega,by go_num,rfl,by rw [htk.out,List.map_append];exact HA.out.1,HA.out.2⟩
      case measure=>simp [intOf];omega
    · have hkn:k=L.length:=by omega
      subst hkn
      rw [List.take_of_length_le (Nat.le_refl _)] at HO
      have hL24:L.length=2∨L.length=4:=by have:=HLN.out;omega
      obtain ⟨g0,rfl⟩:∃ g0,g=some g0:=by
        obtain ⟨q,e,_⟩:=HO.out.at_ 0 (by rw [List.length_map];omega)
        exact ⟨q,e⟩
      have HS:=hid (sort_go g0 c L.length (L.map fun t=>v.hs t.toNat) X0 wr HO.out (by rw [List.length_map]) hL24 HB.out)
      have HN2:Hid (L.length - 1=n - 2):=by have:=HLN.out;show _=_;omega
      have HSL:Hid ((sinks (n - 2) (L.map fun t=>v.hs t.toNat) 1).length=L.length):=by show _=_;rw [sinks_len,List.length_map]
      rw [HN2.out] at HS
      generalize sinks (n - 2) (L.map fun t=>v.hs t.toNat) 1=SS at *
      simp only [Option.map_some]
      go_wp2_with fail
      refine HS.out.mono ?_
      rintro e X1 ⟨rfl,ho,hb⟩
      have HO1:=hid ho
      have HB1:=hid (HB0.out.trans (hb.mono HB0.out.size))
      clear ho hb HS
      go_wp2_with fail
      refine (FV.out _ HB1.out).mono ?_
      rintro e X2 ⟨rfl,hb⟩
      have HB2:=hid (HB1.out.trans (hb.mono HB1.out.size))
      have x1:=(HO1.out.below hb).cell (n - 1 - n / 2) (by have:=HSL.out;have:=HLN.out;omega)
      rw [← HFW.out] at x1
      clear hb
      have i0:(0:Int)≤((n - 1 - n / 2:Nat):Int):=by omega
      have i1:((n - 1 - n / 2:Nat):Int) < (L.length:Int):=by have:=HLN.out;omega
      have iw:IntKind.i64.wrap ((L.length:Int) - ((n / 2:Nat):Int))=((n - 1 - n / 2:Nat):Int):=by rw [IntWalk.i64_left,IntWalk.wrap64_in _ (by omega)];have:=HLN.out;omega
      clear HFW HSL HN2 hL24 h35 HLE FV
      generalize n - 1 - n / 2=ix at *
      generalize n / 2=f2 at *
      generalize L.length=LL at *
      go_wp2
      go_ret
      exact ⟨rfl,HB2.out⟩
end
end Go.Proofs.YtolififimldmlaaGreat
