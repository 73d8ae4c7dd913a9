import Derived.Test.YtolififimldmlaaGreatPart27
set_option linter.unusedVariables false
set_option linter.unusedSimpArgs false
set_option maxRecDepth 100000
set_option maxHeartbeats 16000000
namespace Go.Proofs.YtolififimldmlaaGreat
section
open Go.RowKit
attribute [local go_sem ↓] Go.wp_at_zero Go.wp_at_succ
def Ln.fits (l:Ln):Prop:=0≤l.c∧l.c < 256∧0≤l.t∧l.t < 256∧l.s.length≤8
theorem byteOf_val {n:Int} (h0:0≤n) (h1:n < 256):((byteOf n).toNat:Int)=n:=by
  rw [byteOf_cell];omega
theorem takeLine_of (l:Ln) (h:l.fits):tlOk (lineBytes l)=true∧tlRest (lineBytes l)=[]∧tlLine (lineBytes l)=l:=by
  obtain ⟨c,t,s⟩:=l
  obtain ⟨h1,h2,h3,h4,h5⟩:=h
  dsimp only at *
  have e2:((lineBytes ⟨c,t,s⟩).getD 2 0).toNat=s.length:=by
    have:=byteOf_val (n:=(s.length:Int)) (by omega) (by omega)
    show (byteOf s.length).toNat=s.length
    omega
  have e0:(((lineBytes ⟨c,t,s⟩).getD 0 0).toNat:Int)=c:=byteOf_val h1 h2
  have e1:(((lineBytes ⟨c,t,s⟩).getD 1 0).toNat:Int)=t:=byteOf_val h3 h4
  have hl:(lineBytes ⟨c,t,s⟩).length=s.length+3:=by simp [lineBytes]
  obtain ⟨q1,q2,q3⟩:=tl_yes (lineBytes ⟨c,t,s⟩) (by omega) (by rw [e2,hl];omega)
  refine ⟨q3,?_,?_⟩
  · rw [q2,e2];exact List.drop_eq_nil_of_le (by rw [hl];omega)
  · rw [q1,e2]
    have hd:((lineBytes ⟨c,t,s⟩).drop 3).take s.length=s:=by
      show (s).take s.length=s
      exact List.take_of_length_le (Nat.le_refl _)
    rw [hd,e0,e1]
theorem candM_line (m:Mm) (l:Ln) (h:l.fits):candM m (1 :: lineBytes l)=some ⟨m.view,m.last,m.ls++[l]⟩:=by
  obtain ⟨q1,q2,q3⟩:=takeLine_of l h
  unfold candM
  rw [if_neg (by simp)]
  have:((1 :: lineBytes l:List UInt8).getD 0 0).toNat=1:=rfl
  rw [if_pos this]
  have hd:(1 :: lineBytes l:List UInt8).drop 1=lineBytes l:=rfl
  rw [hd,q1,q2,q3]
  rfl
theorem lineMoreV (R:Bool→World→Prop) (v:PV) (B:Nat) (w:World) (h:v.At w B) (l:Ln) (hl:l.fits)
    (HW:∀ (z:World) (g c:Nat),Below w.heap.size w z→OwnBytes w z (some g) c (1 :: lineBytes l)→Calls Tryz.prog 163 #[.pointer (some ⟨B,3,none⟩),.slice (some ⟨g,0,none⟩) (1 :: lineBytes l).length c] z fun e w'=>∃ b,e=.returned (.bool b)∧R b w') :
    Calls Tryz.prog 123 #[.pointer (some ⟨B,3,none⟩),.agg #[.int .i64 l.c,.int .i64 l.t,.string ⟨l.s.toArray⟩]] w fun e w'=>∃ b,e=.returned (.bool b)∧R b w':=by
  have HWH:=hid HW
  obtain ⟨lc,lt,ls⟩:=l
  have h8:ls.length≤8:=hl.2.2.2.2
  have AL:Hid (∀ (z:World) (g:Nat),Grew z z (some g) g 1 [1]→Calls Tryz.prog 70 #[.slice (some ⟨g,0,none⟩) 1 1,.agg #[.int .i64 lc,.int .i64 lt,.string ⟨ls.toArray⟩]] z fun e w'=>∃ g' c',e=.returned (.slice (some ⟨g',0,none⟩) (1 :: lineBytes ⟨lc,lt,ls⟩).length c')∧Grew z w' (some g) g' c' (1 :: lineBytes ⟨lc,lt,ls⟩)):=fun z g hg =>
    appendLine_at g 1 1 [1] ⟨lc,lt,ls⟩ z z (some g) hg rfl (by simp) (by dsimp only;omega)
  clear HW h hl
  dsimp only at *
  generalize (1 :: lineBytes ⟨lc,lt,ls⟩)=inner at *
  go_enter Tryz.func123,Tryz.ntmps123
  go_wp2_with fail
  obtain ⟨Y,hY⟩:∃ Y,Y=(w.alloc (.cells #[.int .i64 lc,.int .i64 lt,.string ⟨ls.toArray⟩] 27)).alloc (.cells #[.int .u8 1] 5):=⟨_,rfl⟩
  rw [← hY]
  have hh:Y.heap[w.heap.size+1]?=some (.cells #[.int .u8 1] 5 (0,0)):=by rw [hY];exact heap_alloc2 w _ _ _
  have HBY:Hid (Below w.heap.size w Y):=by show Below _ _ _;rw [hY];exact ((Below.refl _ _).alloc (Nat.le_refl _) _).alloc (by rw [World.size_alloc];omega) _
  have hG:Grew Y Y (some (w.heap.size+1)) (w.heap.size+1) 1 [1]:=Grew.refl (fun j hj=>⟨w.heap.size+1,rfl,by
    have:j=0:=by simpa using hj
    subst this
    rw [cell_of_heap hh];rfl⟩) (.inr ⟨_,_,rfl,hh,rfl,Nat.le_refl _,by simp only [maxLen];omega⟩)
  have HG:=hid hG
  clear hY hh hG
  refine (AL.out Y _ HG.out).mono ?_
  rintro e X1 ⟨g',c',rfl,G⟩
  have hXb:Below w.heap.size w X1:=HBY.out.trans (G.touch.below HBY.out.size (fun k _ e=>by have:=Option.some.inj e;omega))
  have hXo:OwnBytes w X1 (some g') c' inner:=⟨G.at_,G.own,fun k e=>by
    have e:=Option.some.inj e
    subst e
    rcases G.lies with q | q
    · have:=Option.some.inj q;omega
    · exact Nat.le_trans HBY.out.size q⟩
  have HC:=hid (HWH.out X1 g' c' hXb hXo)
  clear G hXb hXo AL HWH
  go_wp2_with fail
  refine HC.out.mono ?_
  rintro e X2 ⟨b,rfl,hr⟩
  go_wp2
  go_ret
  exact ⟨b,rfl,hr⟩
def PV.more (v:PV) (l:Ln) (narm:Int) (gd':Option Nat) (cd':Nat) (gl':Option Nat) (cl':Nat):PV :=
  { v with arm:=narm,d:=v.d++recBytes (1 :: lineBytes l),gd:=gd',cd:=cd',m:=⟨v.m.view,v.m.last,v.m.ls++[l]⟩,gl:=gl',cl:=cl' }
theorem lineMoreOkV (v:PV) (B:Nat) (w:World) (h:v.At w B) (hl:v.lost=[]) (narm:Int) (harm:(v.arm=0∧narm=0)∨(2≤v.arm∧v.arm≤9223372036854775807∧narm=v.arm - 1)) (l:Ln) (hf:l.fits) (h20:v.m.ls.length≤20) (hdl:v.d.length≤9900000) :
    Calls Tryz.prog 123 #[.pointer (some ⟨B,3,none⟩),.agg #[.int .i64 l.c,.int .i64 l.t,.string ⟨l.s.toArray⟩]] w fun e w'=>∃ gd' cd' gl' cl',e=.returned (.bool true)∧Chg w w' B v (v.more l narm gd' cd' gl' cl'):=by
  have h8:l.s.length≤8:=hf.2.2.2.2
  have hil:(1 :: lineBytes l).length≤1000:=by simp [lineBytes];omega
  refine (lineMoreV (fun b w'=>b=true∧∃ gd' cd' gl' cl',Chg w w' B v (v.more l narm gd' cd' gl' cl')) v B w h l hf (fun z g c hz ho=>?_)).mono ?_
  · refine (writeOkV v B z (h.below hz) hl narm harm (some ⟨g,0,none⟩) _ c (1 :: lineBytes l) ho.at_.in_ (fun p e=>?_) rfl hil ?_ ⟨v.m.view,v.m.last,v.m.ls++[l]⟩ (candM_line v.m l hf) h20 hdl).mono ?_
    · cases e
      intro e
      have:=h.ownlt e
      have:=ho.new g rfl
      dsimp only at *
      omega
    · rcases ho.own with ⟨e,_⟩ | ⟨_,_,_,_,_,e,_⟩
      · cases e
      · exact e
    · rintro e w' ⟨gd',cd',gl',cl',rfl,hc⟩
      exact ⟨true,rfl,rfl,gd',cd',gl',cl',Chg.of hz h hc⟩
  · rintro e w' ⟨b,rfl,rfl,gd',cd',gl',cl',hc⟩
    exact ⟨gd',cd',gl',cl',rfl,hc⟩
def PV.crash (v:PV) (inner:List UInt8) (gf cf:Nat):PV:={ v with m:=Mm.zero,arm:=0,lost:=recBytes inner,gl:=none,cl:=0,gf:=some gf,cf:=cf }
theorem lineMoreFailV (v:PV) (B:Nat) (w:World) (h:v.At w B) (hl:v.lost=[]) (harm:v.arm=1) (l:Ln) (hf:l.fits) :
    Calls Tryz.prog 123 #[.pointer (some ⟨B,3,none⟩),.agg #[.int .i64 l.c,.int .i64 l.t,.string ⟨l.s.toArray⟩]] w fun e w'=>∃ gf cf,e=.returned (.bool false)∧Chg w w' B v (v.crash (1 :: lineBytes l) gf cf):=by
  have h8:l.s.length≤8:=hf.2.2.2.2
  have hil:(1 :: lineBytes l).length≤1000:=by simp [lineBytes];omega
  refine (lineMoreV (fun b w'=>b=false∧∃ gf cf,Chg w w' B v (v.crash (1 :: lineBytes l) gf cf)) v B w h l hf (fun z g c hz ho=>?_)).mono ?_
  · refine (writeFailV v B z (h.below hz) hl harm (some ⟨g,0,none⟩) _ c (1 :: lineBytes l) ho.at_.in_ rfl hil).mono ?_
    rintro e w' ⟨gf,cf,rfl,hc⟩
    exact ⟨false,rfl,rfl,gf,cf,Chg.of hz h hc⟩
  · rintro e w' ⟨b,rfl,rfl,gf,cf,hc⟩
    exact ⟨gf,cf,rfl,hc⟩
theorem hearSayOkV (v:PV) (B:Nat) (w:World) (h:v.At w B) (n:Nat) (hkn:v.kp=n) (hk:v.kp=3∨v.kp=5) (hv:0≤v.m.view) (hin:v.m.last=v.m.view) (hme:v.m.view % v.kp=v.me) (hl:v.lost=[]) (narm:Int) (harm:(v.arm=0∧narm=0)∨(2≤v.arm∧v.arm≤9223372036854775807∧narm=v.arm - 1)) (l:Ln) (hf:l.fits)
    (ht:turnOf v.m.ls l.c < l.t) (h20:v.m.ls.length < 20) (hdl:v.d.length≤9900000) :
    Calls Tryz.prog 81 #[.pointer (some ⟨B,0,none⟩),.agg #[.int .i64 l.c,.int .i64 l.t,.string ⟨l.s.toArray⟩]] w fun e w'=>∃ g c gs cs gd' cd' gl' cl',e=.returned (sl g (othersL v.me n).length c)∧OwnOuts w w' g c ((othersL v.me n).map fun t=>⟨false,t,packS ⟨2,v.me,v.m.view,(v.m.ls.length+1:Nat),v.ag,0,l,[]⟩⟩) gs cs∧Chg w w' B v (v.more l narm gd' cd' gl' cl')∧∀ j,j < (othersL v.me n).length→∀ k,(g=some k∨gs j=some k)→¬ (v.more l narm gd' cd' gl' cl').own B k:=by
  have IH:=hid (fun z (hz:Below w.heap.size w z)=>isHeadV v B z (h.below hz) hv hk)
  have hb1:((v.m.last == v.m.view) && (v.m.view % v.kp == v.me))=true:=by rw [hin,hme];simp
  rw [hb1] at IH
  have LV:Hid (∀ z,Below w.heap.size w z→Calls Tryz.prog 83 #[.pointer (some ⟨B,0,none⟩)] z fun e w'=>e=.returned (sl v.gl v.m.ls.length v.cl)∧Below z.heap.size z w'):=fun z hz=>linesV v B z (h.below hz)
  have GV:Hid (∀ z,Below w.heap.size w z→Calls Tryz.prog 121 #[.slice (v.gl.map fun k=>⟨k,0,none⟩) v.m.ls.length v.cl,.int .i64 l.c] z fun e w'=>e=.returned (.int .i64 (turnOf v.m.ls l.c))∧Below z.heap.size z w'):=fun z hz=>greatest_any _ _ v.m.ls l.c z (h.below hz).lb (by omega)
  have MV:Hid (∀ z,Below w.heap.size w z→Calls Tryz.prog 123 #[.pointer (some ⟨B,3,none⟩),.agg #[.int .i64 l.c,.int .i64 l.t,.string ⟨l.s.toArray⟩]] z fun e w'=>∃ gd' cd' gl' cl',e=.returned (.bool true)∧Chg z w' B v (v.more l narm gd' cd' gl' cl')):=fun z hz=>lineMoreOkV v B z (h.below hz) hl narm harm l hf (by omega) hdl
  have HV:=hid h
  have hlt:¬ (l.t≤turnOf v.m.ls l.c):=by omega
  have h2z:((v.m.ls.length:Int) == 20)=false:=beq_eq_false_iff_ne.2 (by omega)
  have H20:=hid h20
  have HKN:=hid hkn
  have HK:=hid hk
  clear h hl harm ht h20 hdl hkn hk hv hin hme hb1
  obtain ⟨lc,lt,ls⟩:=l
  dsimp only at *
  generalize hT:turnOf v.m.ls lc=T at *
  go_enter Tryz.func81,Tryz.ntmps81
  go_wp2_with fail
  refine (IH.out _ ((Below.refl _ _).alloc (Nat.le_refl _) _)).mono ?_
  rintro e X0 ⟨rfl,hb0⟩
  rw [World.size_alloc] at hb0
  have HB0:Hid (Below w.heap.size w X0):=((Below.refl _ _).alloc (Nat.le_refl _) _).trans (hb0.mono (by omega))
  have HL0:Hid (X0.heap[w.heap.size]?=some (.cells #[.int .i64 lc,.int .i64 lt,.string ⟨ls.toArray⟩] 27 (0,0))):=by show _=_;rw [hb0.block _ (by omega)];exact heap_alloc_new w _
  clear hb0 IH
  go_wp2
  refine wp_region_held_drew (S:=fun z:World=>z.heap[w.heap.size]?=some (.cells #[.int .i64 lc,.int .i64 lt,.string ⟨ls.toArray⟩] 27 (0,0))) (by kernel_rfl) HL0.out (fun hS=>?_)
  refine tH 0 hS ?_
  try simp only [lA,lB,lC,Act.put,lD,lE,lF]
  refine tH 2 hS ?_
  try simp only [lA,lB,lC,Act.put,lD,lE,lF]
  refine tH 4 hS ?_
  try simp only [lA,lB,lC,Act.put,lD,lE,lF]
  refine tH 1 hS ?_ (hy:=by (intro w hw;have s0:=cell_of_heap hw 0;have s1:=cell_of_heap hw 1;have s2:=cell_of_heap hw 2;simp only [List.getElem?_toArray,List.getElem?_cons_zero,List.getElem?_cons_succ] at s0 s1 s2;clear hw;go_simp;try with_reducible rfl))
  try simp only [lA,lB,lC,Act.put,lD,lE,lF]
  refine tH 5 hS ?_ (hy:=by (intro w hw;have s0:=cell_of_heap hw 0;have s1:=cell_of_heap hw 1;have s2:=cell_of_heap hw 2;simp only [List.getElem?_toArray,List.getElem?_cons_zero,List.getElem?_cons_succ] at s0 s1 s2;clear hw;go_simp;try with_reducible rfl))
  try simp only [lA,lB,lC,Act.put,lD,lE,lF]
  refine wpAnyH_ready (rs:=[3]) (by kernel_rfl) (by simp) ?_
  refine AllReadyH.cons rfl (fun K hK=>?_) AllReadyH.nil
  go_simp
  refine (LV.out _ HB0.out.drew).mono ?_
  rintro e X1 ⟨rfl,hbf⟩
  have HB1:=hid (HB0.out.drew.trans (hbf.mono HB0.out.size))
  have HL1:=hid ((hbf.block _ (heap_lt HL0.out)).trans HL0.out)
  clear hbf
  refine hK.out _ _ HL1.out (fun hS=>?_)
  clear hK K
  unfold sl
  refine wpAnyH_ready (rs:=[6]) (by kernel_rfl) (by simp) ?_
  refine AllReadyH.cons rfl (fun K hK=>?_) AllReadyH.nil
  go_simp
  refine (GV.out _ HB1.out).mono ?_
  rintro e X2 ⟨rfl,hbf⟩
  have HB2:=hid (HB1.out.trans (hbf.mono HB1.out.size))
  have HL2:=hid ((hbf.block _ (heap_lt HL1.out)).trans HL1.out)
  clear hbf
  refine hK.out _ _ HL2.out (fun hS=>?_)
  clear hK K
  refine tH 7 hS ?_
  try simp only [lA,lB,lC,Act.put,lD,lE,lF]
  refine tH 8 hS ?_
  try simp only [lA,lB,lC,Act.put,lD,lE,lF]
  refine wpAnyH_done (by kernel_rfl) ?_ _
  clear hS
  go_wp2_with fail
  refine (LV.out _ HB2.out).mono ?_
  rintro e X3 ⟨rfl,hbf⟩
  have HB3:=hid (HB2.out.trans (hbf.mono HB2.out.size))
  have HL3:=hid ((hbf.block _ (heap_lt HL2.out)).trans HL2.out)
  clear hbf LV
  unfold sl
  have s0:=cell_of_heap HL3.out 0
  have s1:=cell_of_heap HL3.out 1
  have s2:=cell_of_heap HL3.out 2
  simp only [List.getElem?_toArray,List.getElem?_cons_zero,List.getElem?_cons_succ] at s0 s1 s2
  go_wp2
  go_still_tail 4,(by kernel_rfl)
  go_wp2_with fail
  refine (MV.out _ HB3.out.drew).mono ?_
  rintro e X4 ⟨gd',cd',gl',cl',rfl,hc⟩
  have HC:=hid (Chg.of HB3.out.drew HV.out hc)
  clear hc s0 s1 s2 MV
  have hU:(v.more ⟨lc,lt,ls⟩ narm gd' cd' gl' cl').At X4 B:=HC.out.at_
  have hul:(v.more ⟨lc,lt,ls⟩ narm gd' cd' gl' cl').m.ls.length=v.m.ls.length+1:=by show (v.m.ls++[_]).length=_;simp
  have hn5:n≤5:=by have:=HKN.out;have:=HK.out;omega
  have LU:Hid (Calls Tryz.prog 83 #[.pointer (some ⟨B,0,none⟩)] X4 fun e w'=>e=.returned (.slice (gl'.map fun k=>⟨k,0,none⟩) (v.m.ls.length+1) cl')∧Below X4.heap.size X4 w'):=by
    have:=linesV _ B X4 hU
    rw [hul] at this;exact this
  have PU:Hid (∀ z,Below X4.heap.size X4 z→Calls Tryz.prog 125 #[.pointer (some ⟨B,0,none⟩),.int .i64 (v.m.ls.length+1:Nat)] z fun e w'=>e=.returned (.agg #[.int .i64 v.me,.int .i64 v.m.view,.int .i64 (v.m.ls.length+1:Nat),.int .i64 v.ag,.int .i64 lc,.int .i64 lt,.string ⟨ls.toArray⟩])∧Below z.heap.size z w'):=fun z hz=>by
    have:=prepareV _ B z (hU.below hz) v.m.ls.length (by rw [hul];omega) (by rw [hul];have:=H20.out;omega)
    have e:(v.more ⟨lc,lt,ls⟩ narm gd' cd' gl' cl').m.ls[v.m.ls.length]'(by rw [hul];omega)=⟨lc,lt,ls⟩:=List.getElem_concat_length rfl _
    rw [e] at this
    exact this
  have TU:Hid (∀ z,Below X4.heap.size X4 z→Calls Tryz.prog 124 #[.pointer (some ⟨B,0,none⟩),.iface 153 (.agg #[.int .i64 v.me,.int .i64 v.m.view,.int .i64 (v.m.ls.length+1:Nat),.int .i64 v.ag,.int .i64 lc,.int .i64 lt,.string ⟨ls.toArray⟩])] z (OutsRet z ((othersL v.me n).map fun t=>⟨false,t,packS ⟨2,v.me,v.m.view,(v.m.ls.length+1:Nat),v.ag,0,⟨lc,lt,ls⟩,[]⟩⟩))):=fun z hz =>
    toOthersV _ B z (hU.below hz) n HKN.out hn5 _ _ (fun y _=>bytesPrepare v.me v.m.view (v.m.ls.length+1:Nat) v.ag lc lt ls y)
  have FIN:Hid (∀ z w',Below X4.heap.size X4 z→∀ e,OutsRet z ((othersL v.me n).map fun t=>⟨false,t,packS ⟨2,v.me,v.m.view,(v.m.ls.length+1:Nat),v.ag,0,⟨lc,lt,ls⟩,[]⟩⟩) e w'→∃ g c gs cs gd' cd' gl' cl',e=.returned (sl g (othersL v.me n).length c)∧OwnOuts w w' g c ((othersL v.me n).map fun t=>⟨false,t,packS ⟨2,v.me,v.m.view,(v.m.ls.length+1:Nat),v.ag,0,⟨lc,lt,ls⟩,[]⟩⟩) gs cs∧Chg w w' B v (v.more ⟨lc,lt,ls⟩ narm gd' cd' gl' cl')∧∀ j,j < (othersL v.me n).length→∀ k,(g=some k∨gs j=some k)→¬ (v.more ⟨lc,lt,ls⟩ narm gd' cd' gl' cl').own B k):=fun z w' hz e ho=>by
    obtain ⟨g,c,gs,cs,he,hoo,hb⟩:=ho
    rw [List.length_map] at he
    refine ⟨g,c,gs,cs,gd',cd',gl',cl',he,hoo.base (Nat.le_trans HC.out.tch.size hz.size),(HC.out.below hz).below hb,fun j hj k e3 e4=>?_⟩
    have h1:=hU.ownlt e4
    have h2:=hz.size
    rcases e3 with e3 | e3
    · have:=hoo.new k e3;omega
    · have:=(hoo.bs j (by rw [List.length_map];exact hj)).new k e3;omega
  clear hU hul H20 HKN HK HV HC hn5 h2z
  generalize hOO:((othersL v.me n).map fun t=>(⟨false,t,packS ⟨2,v.me,v.m.view,(v.m.ls.length+1:Nat),v.ag,0,⟨lc,lt,ls⟩,[]⟩⟩:OutG))=OO at *
  generalize hNN:v.m.ls.length+1=NN at *
  go_wp2_with fail
  refine LU.out.mono ?_
  rintro e X5 ⟨rfl,hb5⟩
  have HB5:=hid hb5
  clear hb5 LU
  go_wp2_with fail
  refine (PU.out _ HB5.out).mono ?_
  rintro e X6 ⟨rfl,hb6⟩
  have HB6:=hid (HB5.out.trans (hb6.mono HB5.out.size))
  clear hb6 PU
  go_wp2_with fail
  refine (TU.out _ HB6.out).mono ?_
  intro e X7 ho
  have HF:=hid (FIN.out X6 X7 HB6.out e ho)
  obtain ⟨g,c,gs,cs,rfl,_,_⟩:=ho
  clear FIN TU
  unfold sl at *
  have HOO:=hid hOO
  clear hOO
  go_wp2
  go_ret
  have e1:=HOO.out
  subst hNN
  subst e1
  exact HF.out
theorem isNaN_go (x:Int) (w:World):Calls Tryz.prog 254 #[.int .i64 x] w fun e w'=>e=.returned (.bool false)∧w'=w:=by
  have h:(x != x)=false:=by simp
  go_enter Tryz.func254,Tryz.ntmps254
  go_wp2
  go_ret
  exact ⟨ret_bool (by simp),rfl⟩
theorem less_go (x y:Int) (w:World):Calls Tryz.prog 223 #[.int .i64 x,.int .i64 y] w fun e w'=>e=.returned (.bool (decide (x < y)))∧Below w.heap.size w w':=by
  go_enter Tryz.func223,Tryz.ntmps223
  go_wp2_with fail
  refine (isNaN_go x w).mono ?_
  rintro e w1 ⟨rfl,hw⟩
  rw [hw]
  clear hw w1
  go_wp2
  go_ret
  exact ⟨rfl,Below.refl _ _⟩
def sink:List Int→Nat→List Int
  | l,0=>l
  | l,j+1=>if l.getD (j+1) 0 < l.getD j 0 then sink ((l.set (j+1) (l.getD j 0)).set j (l.getD (j+1) 0)) j else l
def sinks:Nat→List Int→Nat→List Int
  | 0,l,_=>l
  | f+1,l,i=>sinks f (sink l i) (i+1)
theorem sink_len (j:Nat):∀ l,(sink l j).length=l.length:=by
  induction j with
  | zero=>intro l;rfl
  | succ j ih =>
    intro l
    unfold sink
    split
    · rw [ih];simp
    · rfl
theorem OwnInts.set {w0 w:World} {g c j:Nat} {l:List Int} (h:OwnInts w0 w (some g) c l) (x:Int) (hj:j < l.length):OwnInts w0 (w.setCell ⟨g,j,none⟩ (.int .i64 x)) (some g) c (l.set j x):=by
  refine ⟨fun i hi=>⟨g,rfl,?_⟩,by rw [List.length_set];exact OwnRow.set h.own _ _,h.new⟩
  rw [List.length_set] at hi
  by_cases e:i=j
  · subst e
    rw [List.getElem_set_self]
    rcases h.own with ⟨q,_⟩ | ⟨g',cur,q,hh,q1,q2,q3⟩
    · cases q
    · cases q
      rw [cell_of_heap (heap_setCell hh i _),Array.getElem?_setIfInBounds_self_of_lt (by omega)]
  · rw [List.getElem_set_ne (fun h=>e h.symm),cell_set_ne _ (.inr (fun h=>e h.symm))]
    obtain ⟨k,ek,hc⟩:=h.at_ i hi
    cases ek
    exact hc
theorem OwnInts.cell {w0 w:World} {g c:Nat} {l:List Int} (h:OwnInts w0 w (some g) c l) (j:Nat) (hj:j < l.length):w.cell? ⟨g,j,none⟩=some (.int .i64 (l.getD j 0)):=by
  obtain ⟨k,ek,hc⟩:=h.at_ j hj
  cases ek
  rw [hc,List.getD_eq_getElem?_getD,List.getElem?_eq_getElem hj];rfl
theorem OwnInts.frozen {w0 w:World} {g c:Nat} {l:List Int} (h:OwnInts w0 w (some g) c l) (j:Nat):w.frozen? ⟨g,j,none⟩=false:=by
  rcases h.own with ⟨q,_⟩ | ⟨g',cur,q,hh,_⟩
  · cases q
  · cases q;exact frozen_of_heap hh j
theorem insSort_go (g c n:Nat) (l:List Int) (w0 w:World) (h:OwnInts w0 w (some g) c l) (hn:l.length=n) (h1:1≤n) (h12:n≤12) (hb:Below w0.heap.size w0 w) :
    Calls Tryz.prog 217 #[.slice (some ⟨g,0,none⟩) n c,.int .i64 0,.int .i64 n] w fun e w'=>e=.returned (.tuple #[])∧OwnInts w0 w' (some g) c (sinks (n - 1) l 1)∧Below w0.heap.size w0 w':=by
  have HO:=hid h
  have HB:=hid hb
  have HN:=hid hn
  clear h hb hn
  go_enter Tryz.func217,Tryz.ntmps217
  go_wp2
  go_loopw [6] (fun iv wr=>∃ (i:Nat) (r:List Int),1≤i∧i≤n∧iv=.int .i64 i∧Hid (r.length=n)∧Hid (sinks (n - i) r i=sinks (n - 1) l 1)∧Hid (OwnInts w0 wr (some g) c r)∧Hid (Below w0.heap.size w0 wr)) (fun iv _=>n - (intOf iv).toNat)
  case atStart=>exact ⟨1,l,Nat.le_refl _,h1,rfl,HN.out,rfl,HO.out,HB.out⟩
  case round =>
    obtain ⟨i,r,hi1,hin,rfl,HL,HS,HR,HW⟩:=hrel
    by_cases hlt:i < n
    · have b1:(i:Int) < (n:Int):=by omega
      go_wp2
      go_loopw [7] (fun jv wq=>∃ (j:Nat) (q:List Int),j≤i∧jv=.int .i64 j∧Hid (q.length=n)∧Hid (sink q j=sink r i)∧Hid (OwnInts w0 wq (some g) c q)∧Hid (Below w0.heap.size w0 wq)) (fun jv _=>(intOf jv).toNat)
      case atStart=>exact ⟨i,r,Nat.le_refl _,rfl,HL,rfl,HR,HW⟩
      case round =>
        obtain ⟨j,q,hji,rfl,HQL,HQS,HQ,HQB⟩:=hrel
        have HLL:=HQL.out
        cases j with
        | zero =>
          have HE:Hid (q=sink r i):=HQS.out
          go_wp2
          refine wp_region_any (by kernel_rfl) ?_
          try (change wpAny _ _ _ _ _ _ _ (World.drew _))
          refine tA 0 ?_
          try simp only [lA,lB,lC,Act.put,lD,lE,lF]
          refine tA 1 ?_
          try simp only [lA,lB,lC,Act.put,lD,lE,lF]
          refine tA 2 ?_
          try simp only [lA,lB,lC,Act.put,lD,lE,lF]
          refine tA 3 ?_
          try simp only [lA,lB,lC,Act.put,lD,lE,lF]
          refine sA 4 ?_
          try simp only [lA,lB,lC,Act.put,lD,lE,lF]
          refine sA 5 ?_
          try simp only [lA,lB,lC,Act.put,lD,lE,lF]
          refine sA 6 ?_
          try simp only [lA,lB,lC,Act.put,lD,lE,lF]
          refine sA 7 ?_
          try simp only [lA,lB,lC,Act.put,lD,lE,lF]
          refine sA 8 ?_
          try simp only [lA,lB,lC,Act.put,lD,lE,lF]
          refine sA 9 ?_
          try simp only [lA,lB,lC,Act.put,lD,lE,lF]
          refine sA 10 ?_
          try simp only [lA,lB,lC,Act.put,lD,lE,lF]
          refine sA 11 ?_
          try simp only [lA,lB,lC,Act.put,lD,lE,lF]
          refine sA 12 ?_
          try simp only [lA,lB,lC,Act.put,lD,lE,lF]
          refine sA 13 ?_
          try simp only [lA,lB,lC,Act.put,lD,lE,lF]
          refine tA 14 ?_
          try simp only [lA,lB,lC,Act.put,lD,lE,lF]
          refine wpAny_done (by kernel_rfl) ?_ _
          go_wp2
          go_roundw
          case rel =>
            refine ⟨i+1,q,by omega,by omega,by go_num,HQL.out,?_,HQ.out.below ((Below.refl _ _).drew),HQB.out.drew⟩
            show sinks (n - (i+1)) q (i+1)=_
            rw [HE.out,← HS.out,show n - i=(n - (i+1))+1 from by omega]
            rfl
          case measure=>simp [intOf];omega
        | succ k =>
          have x1:=HQ.out.cell (k+1) (by omega)
          have x0:=HQ.out.cell k (by omega)
          have wk:IntKind.i64.wrap (((k+1:Nat):Int) - 1)=(k:Int):=by rw [IntWalk.i64_left,IntWalk.wrap64_in _ (by omega)];omega
          have p0:(0:Int) < ((k+1:Nat):Int):=by omega
          have p1:(0:Int)≤((k+1:Nat):Int):=by omega
          have p2:((k+1:Nat):Int) < (n:Int):=by omega
          have p3:(0:Int)≤(k:Int):=by omega
          have p4:(k:Int) < (n:Int):=by omega
          have fz:=HQ.out.frozen
          have HSK:Hid (sink q (k+1)=if q.getD (k+1) 0 < q.getD k 0 then sink ((q.set (k+1) (q.getD k 0)).set k (q.getD (k+1) 0)) k else q):=rfl
          have HSW:Hid (∀ z,OwnInts w0 z (some g) c q→OwnInts w0 ((z.setCell ⟨g,k+1,none⟩ (.int .i64 (q.getD k 0))).setCell ⟨g,k,none⟩ (.int .i64 (q.getD (k+1) 0))) (some g) c ((q.set (k+1) (q.getD k 0)).set k (q.getD (k+1) 0))):=fun z hz=>(hz.set _ (by omega)).set _ (by rw [List.length_set];omega)
          have HSL:Hid (((q.set (k+1) (q.getD k 0)).set k (q.getD (k+1) 0)).length=n):=by show _=_;simp;exact HQL.out
          generalize hJ:((k+1:Nat):Int)=J at *
          have hJt:J.toNat=k+1:=by omega
          have wJ:IntKind.i64.wrap (J - 1)=(k:Int):=wk
          clear wk hJ
          generalize q.getD (k+1) 0=y1 at *
          generalize q.getD k 0=y0 at *
          go_wp2
          have HX1:=hid x1
          have HX0:=hid x0
          clear x1 x0
          refine wp_region_held_drew (S:=fun z:World=>z.cell? ⟨g,k+1,none⟩=some (.int .i64 y1)∧z.cell? ⟨g,k,none⟩=some (.int .i64 y0)) (by kernel_rfl) ⟨HX1.out,HX0.out⟩ (fun hS=>?_)
          refine tH 0 hS ?_
          try simp only [lA,lB,lC,Act.put,lD,lE,lF]
          refine tH 1 hS ?_
          try simp only [lA,lB,lC,Act.put,lD,lE,lF]
          refine tH 2 hS ?_
          try simp only [lA,lB,lC,Act.put,lD,lE,lF]
          refine tH 3 hS ?_
          try simp only [lA,lB,lC,Act.put,lD,lE,lF]
          refine tH 4 hS ?_
          try simp only [lA,lB,lC,Act.put,lD,lE,lF]
          refine tH 5 hS ?_
          try simp only [lA,lB,lC,Act.put,lD,lE,lF]
          refine tH 6 hS ?_
          try simp only [lA,lB,lC,Act.put,lD,lE,lF]
          refine tH 8 hS ?_
          try simp only [lA,lB,lC,Act.put,lD,lE,lF]
          refine tH 9 hS ?_
          try simp only [lA,lB,lC,Act.put,lD,lE,lF]
          refine tH 10 hS ?_
          try simp only [lA,lB,lC,Act.put,lD,lE,lF]
          refine tH 11 hS ?_
          try simp only [lA,lB,lC,Act.put,lD,lE,lF]
          refine tH 7 hS ?_ (hy:=by (intro w hw;obtain ⟨s1,s0⟩:=hw;go_simp;try with_reducible rfl))
          try simp only [lA,lB,lC,Act.put,lD,lE,lF]
          refine tH 12 hS ?_ (hy:=by (intro w hw;obtain ⟨s1,s0⟩:=hw;go_simp;try with_reducible rfl))
          try simp only [lA,lB,lC,Act.put,lD,lE,lF]
          refine wpAnyH_ready (rs:=[13]) (by kernel_rfl) (by simp) ?_
          refine AllReadyH.cons rfl (fun K hK=>?_) AllReadyH.nil
          go_simp
          refine (less_go y1 y0 _).mono ?_
          rintro e X1 ⟨rfl,hbf⟩
          have HBF:Hid (Below wr.heap.size wr X1):=(Below.refl _ wr).drew.trans hbf
          clear hbf
          have HQ1:=hid (HQ.out.below HBF.out)
          have x1:=(HBF.out.cell (World.block_lt_of_cell? _ _ HX1.out)).trans HX1.out
          have x0:=(HBF.out.cell (World.block_lt_of_cell? _ _ HX0.out)).trans HX0.out
          refine hK.out _ _ ⟨x1,x0⟩ (fun hS=>?_)
          clear hK K
          by_cases hlt2:y1 < y0
          · rw [decide_eq_true hlt2]
            have f1:=HQ1.out.frozen
            have HS2:Hid (sink ((q.set (k+1) y0).set k y1) k=sink r i):=by show _=_;rw [← HQS.out,HSK.out,if_pos hlt2]
            have HSW2:=hid (HSW.out X1.drew (HQ1.out.below ((Below.refl _ _).drew)))
            have HB3:Hid (Below w0.heap.size w0 ((X1.drew.setCell ⟨g,k+1,none⟩ (.int .i64 y0)).setCell ⟨g,k,none⟩ (.int .i64 y1))):=((HQB.out.trans (HBF.out.mono HQB.out.size)).drew.setCell (p:=⟨g,k+1,none⟩) (HQ.out.new g rfl) _).setCell (p:=⟨g,k,none⟩) (HQ.out.new g rfl) _
            clear fz hlt2 HSK HSW
            refine tH 14 hS ?_
            try simp only [lA,lB,lC,Act.put,lD,lE,lF]
            refine wpAnyH_done (by kernel_rfl) ?_ _
            go_wp2
            refine wp_region_any (by kernel_rfl) ?_
            try (change wpAny _ _ _ _ _ _ _ (World.drew _))
            refine tA 0 ?_
            try simp only [lA,lB,lC,Act.put,lD,lE,lF]
            refine tA 1 ?_
            try simp only [lA,lB,lC,Act.put,lD,lE,lF]
            refine tA 2 ?_
            try simp only [lA,lB,lC,Act.put,lD,lE,lF]
            refine tA 3 ?_
            try simp only [lA,lB,lC,Act.put,lD,lE,lF]
            refine tA 4 ?_
            try simp only [lA,lB,lC,Act.put,lD,lE,lF]
            refine tA 5 ?_
            try simp only [lA,lB,lC,Act.put,lD,lE,lF]
            refine tA 6 ?_
            try simp only [lA,lB,lC,Act.put,lD,lE,lF]
            refine tA 7 ?_
            try simp only [lA,lB,lC,Act.put,lD,lE,lF]
            refine tA 8 ?_
            try simp only [lA,lB,lC,Act.put,lD,lE,lF]
            refine tA 10 ?_
            try simp only [lA,lB,lC,Act.put,lD,lE,lF]
            refine tA 11 ?_
            try simp only [lA,lB,lC,Act.put,lD,lE,lF]
            refine tA 12 ?_
            try simp only [lA,lB,lC,Act.put,lD,lE,lF]
            refine wpAny_ready (rs:=[9,13]) (by kernel_rfl) (by simp) ?_
            refine AllReady.cons rfl (fun K hK=>?_) (AllReady.cons rfl (fun K hK=>?_) (AllReady.nil))
            · go_simp
              refine hK _ _ ?_
              clear hK K
              refine wpAny_ready (rs:=[13]) (by kernel_rfl) (by simp) ?_
              refine AllReady.cons rfl (fun K hK=>?_) (AllReady.nil)
              go_simp
              refine hK _ _ ?_
              clear hK K
              refine tA 14 ?_
              try simp only [lA,lB,lC,Act.put,lD,lE,lF]
              refine wpAny_ready (rs:=[15]) (by kernel_rfl) (by simp) ?_
              refine AllReady.cons rfl (fun K hK=>?_) AllReady.nil
              go_simp
              refine hK _ _ ?_
              clear hK K
              refine tA 16 ?_
              try simp only [lA,lB,lC,Act.put,lD,lE,lF]
              refine wpAny_ready (rs:=[17]) (by kernel_rfl) (by simp) ?_
              refine AllReady.cons rfl (fun K hK=>?_) AllReady.nil
              go_simp
              refine hK _ _ ?_
              clear hK K
              refine wpAny_done (by kernel_rfl) ?_ _
              go_wp2
              go_roundw
              case rel=>exact ⟨k,_,by omega,rfl,HSL.out,HS2.out,HSW2.out,HB3.out⟩
              case measure=>simp [intOf];omega
            · go_simp
              refine hK _ _ ?_
              clear hK K
              refine wpAny_ready (rs:=[9]) (by kernel_rfl) (by simp) ?_
              refine AllReady.cons rfl (fun K hK=>?_) (AllReady.nil)
              go_simp
              refine hK _ _ ?_
              clear hK K
              refine tA 14 ?_
              try simp only [lA,lB,lC,Act.put,lD,lE,lF]
              refine wpAny_ready (rs:=[15]) (by kernel_rfl) (by simp) ?_
              refine AllReady.cons rfl (fun K hK=>?_) AllReady.nil
              go_simp
              refine hK _ _ ?_
              clear hK K
              refine tA 16 ?_
              try simp only [lA,lB,lC,Act.put,lD,lE,lF]
              refine wpAny_ready (rs:=[17]) (by kernel_rfl) (by simp) ?_
              refine AllReady.cons rfl (fun K hK=>?_) AllReady.nil
              go_simp
              refine hK _ _ ?_
              clear hK K
              refine wpAny_done (by kernel_rfl) ?_ _
              go_wp2
              go_roundw
              case rel=>exact ⟨k,_,by omega,rfl,HSL.out,HS2.out,HSW2.out,HB3.out⟩
              case measure=>simp [intOf];omega
          · have HS2:Hid (q=sink r i):=by show _=_;rw [← HQS.out,HSK.out,if_neg hlt2]
            rw [decide_eq_false hlt2]
            clear HSK HSW
            refine tH 14 hS ?_
            try simp only [lA,lB,lC,Act.put,lD,lE,lF]
            refine wpAnyH_done (by kernel_rfl) ?_ _
            go_wp2
            go_roundw
            case rel =>
              refine ⟨i+1,q,by omega,by omega,by go_num,HQL.out,?_,HQ1.out,HQB.out.trans (HBF.out.mono HQB.out.size)⟩
              show sinks (n - (i+1)) q (i+1)=_
              rw [HS2.out,← HS.out,show n - i=(n - (i+1))+1 from by omega]
              rfl
            case measure=>simp [intOf];omega
    · have hni:n=i:=by omega
      have HE:Hid (r=sinks (n - 1) l 1):=by
        show _=_
        rw [← HS.out,show n - i=0 from by omega]
        rfl
      go_wp2
      go_end0
      exact ⟨rfl,by rw [← HE.out];exact HR.out,HW.out⟩
theorem len64_go (n:Nat) (hn:n=2∨n=4) (w:World):Calls Tryz.prog 227 #[.int .u64 n] w fun e w'=>(∃ x:Int,e=.returned (.int .i64 x))∧w'=w:=by
  rcases hn with rfl | rfl
  all_goals
    go_enter Tryz.func227,Tryz.ntmps227
    go_wp2
    go_ret
    exact ⟨⟨_,rfl⟩,rfl⟩
theorem len_go (n:Nat) (hn:n=2∨n=4) (w:World):Calls Tryz.prog 209 #[.int .u64 n] w fun e w'=>(∃ x:Int,e=.returned (.int .i64 x))∧w'=w:=by
  have HL:=hid (len64_go n hn w)
  clear hn
  go_enter Tryz.func209,Tryz.ntmps209
  go_wp2_with fail
  refine HL.out.mono ?_
  rintro e w1 ⟨⟨x,rfl⟩,hw⟩
  rw [hw]
  clear hw w1
  go_wp2
  go_ret
  exact ⟨⟨_,rfl⟩,rfl⟩
theorem pdq_go (g c n:Nat) (x:Int) (l:List Int) (w0 w:World) (h:OwnInts w0 w (some g) c l) (hn:l.length=n) (h1:1≤n) (h12:n≤12) (hb:Below w0.heap.size w0 w) :
    Calls Tryz.prog 208 #[.slice (some ⟨g,0,none⟩) n c,.int .i64 0,.int .i64 n,.int .i64 x] w fun e w'=>e=.returned (.tuple #[])∧OwnInts w0 w' (some g) c (sinks (n - 1) l 1)∧Below w0.heap.size w0 w':=by
  have HI:=hid (insSort_go g c n l w0 w h hn h1 h12 hb)
  clear h hb hn
  have b1:(n:Int)≤12:=by omega
  go_enter Tryz.func208,Tryz.ntmps208
  go_wp2
  go_loopw [1,2] (fun av bv wr=>av=.int .i64 0∧bv=.int .i64 n∧w=wr) (fun _ _ _=>0)
  case atStart=>exact ⟨rfl,rfl,rfl⟩
  case round =>
    obtain ⟨rfl,rfl,rfl⟩:=hrel
    go_wp2_with fail
    refine HI.out.mono ?_
    rintro e w1 ⟨rfl,h1,h2⟩
    have H1:=hid h1
    have H2:=hid h2
    clear h1 h2 HI
    go_wp2
    refine bodyPost_ret (v:=.tuple #[]) ?_ rfl ⟨rfl,H1.out,H2.out⟩
    simp [results,Tryz.results208,go_sem]
theorem sort_go (g c n:Nat) (l:List Int) (w0 w:World) (h:OwnInts w0 w (some g) c l) (hn:l.length=n) (h24:n=2∨n=4) (hb:Below w0.heap.size w0 w) :
    Calls Tryz.prog 204 #[.slice (some ⟨g,0,none⟩) n c] w fun e w'=>e=.returned (.tuple #[])∧OwnInts w0 w' (some g) c (sinks (n - 1) l 1)∧Below w0.heap.size w0 w':=by
  have HP:Hid (∀ x:Int,Calls Tryz.prog 208 #[.slice (some ⟨g,0,none⟩) n c,.int .i64 0,.int .i64 n,.int .i64 x] w fun e w'=>e=.returned (.tuple #[])∧OwnInts w0 w' (some g) c (sinks (n - 1) l 1)∧Below w0.heap.size w0 w'):=fun x=>pdq_go g c n x l w0 w h hn (by omega) (by omega) hb
  have HL:=hid (len_go n h24 w)
  have wn:IntKind.u64.wrap (n:Int)=(n:Int):=by rcases h24 with rfl | rfl <;> decide
  clear h hb hn h24
  go_enter Tryz.func204,Tryz.ntmps204
  go_wp2_with fail
  refine HL.out.mono ?_
  rintro e w1 ⟨⟨x,rfl⟩,hw⟩
  rw [hw]
  clear hw w1
  go_wp2_with fail
  refine (HP.out x).mono ?_
  rintro e w1 ⟨rfl,h1,h2⟩
  have H1:=hid h1
  have H2:=hid h2
  clear h1 h2 HP HL
  go_wp2
  go_end0
  exact ⟨rfl,H1.out,H2.out⟩
end
end Go.Proofs.YtolififimldmlaaGreat
