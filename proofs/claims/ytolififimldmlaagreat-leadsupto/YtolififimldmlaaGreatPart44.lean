import Derived.Test.YtolififimldmlaaGreatPart43
set_option linter.unusedVariables false
set_option linter.unusedSimpArgs false
set_option maxRecDepth 100000
set_option maxHeartbeats 16000000
namespace Go.Proofs.YtolififimldmlaaGreat
section
open Go.RowKit
attribute [local go_sem ↓] Go.wp_at_zero Go.wp_at_succ
theorem candM_all (m:Mm) (ls:List Ln) (h:linesOk ls=true):candM m (3 :: 0 :: linesBytes ls)=some ⟨0,0,ls⟩:=by
  obtain ⟨h20,hok⟩:=linesOk_all h
  have ht:=takeLines_pack ls h20 hok
  unfold candM
  rw [if_neg (by simp),if_neg (by simp),if_neg (by simp),if_pos (by rfl),if_neg (by simp)]
  have e:(3 :: 0 :: linesBytes ls).drop 2=linesBytes ls:=rfl
  rw [e]
  have e1:tsOk (linesBytes ls)=true:=by unfold tsOk;rw [ht];rfl
  have e2:tsRest (linesBytes ls)=[]:=by unfold tsRest;rw [ht];rfl
  have e3:tsLines (linesBytes ls)=ls:=by unfold tsLines;rw [ht];rfl
  rw [e1,e2,e3]
  rfl
theorem linesBytes_len {ls:List Ln} (h:linesOk ls=true):(linesBytes ls).length≤221:=by
  obtain ⟨h20,hok⟩:=linesOk_all h
  have:=manyBytes_len ls hok
  unfold linesBytes
  rw [List.length_cons];omega
theorem allV (R:Bool→World→Prop) (v:PV) (B:Nat) (w:World) (h:v.At w B) (a:Option Addr) (cap:Nat) (ls:List Ln) (hl:LinesAt w a ls) (hok:linesOk ls=true)
    (HW:∀ (z:World) (g c:Nat),Below w.heap.size w z→OwnBytes w z (some g) c (3 :: 0 :: linesBytes ls)→Calls Tryz.prog 163 #[.pointer (some ⟨B,3,none⟩),.slice (some ⟨g,0,none⟩) (3 :: 0 :: linesBytes ls).length c] z fun e w'=>∃ b,e=.returned (.bool b)∧R b w') :
    Calls Tryz.prog 193 #[.pointer (some ⟨B,3,none⟩),.int .i64 0,.slice a ls.length cap] w fun e w'=>∃ b,e=.returned (.bool b)∧R b w':=by
  have HWH:=hid HW
  obtain ⟨h20,hlo⟩:=linesOk_all hok
  have AL:Hid (∀ (z:World) (g:Nat),Below w.heap.size w z→w.heap.size≤g→Grew z z (some g) g 2 [3,0]→Calls Tryz.prog 71 #[.slice (some ⟨g,0,none⟩) 2 2,.slice a ls.length cap] z fun e w'=>∃ g' c',e=.returned (.slice (some ⟨g',0,none⟩) (3 :: 0 :: linesBytes ls).length c')∧Grew z w' (some g) g' c' (3 :: 0 :: linesBytes ls)):=fun z g hz hgz hg =>
    append_at g 2 2 [3,0] a cap ls z z (some g) hg rfl (hl.below hz) (fun hp p e=>by
      obtain ⟨q,o,e2,h0,_⟩:=hl 0 hp
      rw [e] at e2
      cases e2
      have:=World.block_lt_of_cell? _ _ h0
      dsimp only at *
      omega) (by simp) (by omega) (fun x hx=>Ln.ok_len (hlo x hx))
  clear HW h hl hok hlo
  generalize (3 :: 0 :: linesBytes ls)=inner at *
  go_enter Tryz.func193,Tryz.ntmps193
  go_wp2_with fail
  obtain ⟨Y,hY⟩:∃ Y,Y=w.alloc (.cells #[.int .u8 3,.int .u8 0] 5):=⟨_,rfl⟩
  rw [← hY]
  have hh:Y.heap[w.heap.size]?=some (.cells #[.int .u8 3,.int .u8 0] 5 (0,0)):=by rw [hY];exact heap_alloc_new w _
  have HBY:Hid (Below w.heap.size w Y):=by show Below _ _ _;rw [hY];exact (Below.refl _ _).alloc (Nat.le_refl _) _
  have hG:Grew Y Y (some w.heap.size) w.heap.size 2 [3,0]:=Grew.refl (fun j hj=>⟨w.heap.size,rfl,by
    have:j=0∨j=1:=by simp at hj;omega
    rcases this with rfl | rfl
    · rw [cell_of_heap hh];rfl
    · rw [cell_of_heap hh];rfl⟩) (.inr ⟨_,_,rfl,hh,rfl,Nat.le_refl _,by simp only [maxLen];omega⟩)
  have HG:=hid hG
  clear hY hh hG
  refine (AL.out Y _ HBY.out (Nat.le_refl _) HG.out).mono ?_
  rintro e X1 ⟨g',c',rfl,G⟩
  have hXb:Below w.heap.size w X1:=HBY.out.trans (G.touch.below HBY.out.size (fun k _ e=>by have:=Option.some.inj e;omega))
  have hXo:OwnBytes w X1 (some g') c' inner:=⟨G.at_,G.own,fun k e=>by
    have e:=Option.some.inj e
    subst e
    rcases G.lies with q | q
    · have:=Option.some.inj q;omega
    · exact Nat.le_trans HBY.out.size q⟩
  have HC:=hid (HWH.out X1 g' c' hXb hXo)
  clear G hXb hXo AL HWH
  go_wp2_with fail
  refine HC.out.mono ?_
  rintro e X2 ⟨b,rfl,hr⟩
  go_wp2
  go_ret
  exact ⟨b,rfl,hr⟩
def PV.took (v:PV) (ls:List Ln) (narm:Int) (gd':Option Nat) (cd':Nat) (gl':Option Nat) (cl':Nat):PV :=
  { v with arm:=narm,d:=v.d++recBytes (3 :: 0 :: linesBytes ls),gd:=gd',cd:=cd',m:=⟨0,0,ls⟩,gl:=gl',cl:=cl',hs:=fun _=>0 }
theorem beginViewV (Q:Bool→World→Prop) (v:PV) (B:Nat) (w:World) (h:v.At w B) (hl:v.lost=[]) (h20:v.m.ls.length≤20) (hdl:v.d.length≤9900000) (harm:0≤v.arm∧v.arm≤9223372036854775807) (a:Option Addr) (cap:Nat) (ls:List Ln) (hla:LinesAt w a ls) (hok:linesOk ls=true)
    (H1:v.arm=1→∀ y gf cf,Chg w y B v (v.crash (3 :: 0 :: linesBytes ls) gf cf)→Q false y)
    (H2:v.arm≠1→∀ y gd cd gl cl,Chg w y B v (v.took ls (armNext v.arm) gd cd gl cl)→Q true y) :
    Calls Tryz.prog 186 #[.pointer (some ⟨B,0,none⟩),.int .i64 0,.slice a ls.length cap] w fun e y=>∃ b,e=.returned (.bool b)∧Q b y:=by
  have hil:(3 :: 0 :: linesBytes ls).length≤1000:=by have:=linesBytes_len hok;simp;omega
  have G1:=hid H1
  have G2:=hid H2
  have HV:=hid h
  have HA:Hid (Calls Tryz.prog 193 #[.pointer (some ⟨B,3,none⟩),.int .i64 0,.slice a ls.length cap] w fun e y=>∃ b,e=.returned (.bool b)∧((b=false∧v.arm=1∧∃ gf cf,Chg w y B v (v.crash (3 :: 0 :: linesBytes ls) gf cf))∨(b=true∧v.arm≠1∧∃ gd cd gl cl,Chg w y B v { v with arm:=armNext v.arm,d:=v.d++recBytes (3 :: 0 :: linesBytes ls),gd:=gd,cd:=cd,m:=⟨0,0,ls⟩,gl:=gl,cl:=cl }))):=by
    refine allV _ v B w h a cap ls hla hok (fun z g c hz ho=>?_)
    by_cases ha:v.arm=1
    · refine (writeFailV v B z (h.below hz) hl ha (some ⟨g,0,none⟩) _ c (3 :: 0 :: linesBytes ls) ho.at_.in_ rfl hil).mono ?_
      rintro e w' ⟨gf,cf,rfl,hc⟩
      exact ⟨false,rfl,.inl ⟨rfl,ha,gf,cf,Chg.of hz h hc⟩⟩
    · refine (writeOkV v B z (h.below hz) hl (armNext v.arm) (by unfold armNext;split <;> omega) (some ⟨g,0,none⟩) _ c (3 :: 0 :: linesBytes ls) ho.at_.in_ (fun p e=>?_) rfl hil ?_ ⟨0,0,ls⟩ (candM_all v.m ls hok) h20 hdl).mono ?_
      · cases e
        intro e
        have:=h.ownlt e
        have:=ho.new g rfl
        dsimp only at *
        omega
      · rcases ho.own with ⟨e,_⟩ | ⟨_,_,_,_,_,e,_⟩
        · cases e
        · exact e
      · rintro e w' ⟨gd',cd',gl',cl',rfl,hc⟩
        exact ⟨true,rfl,.inr ⟨rfl,ha,gd',cd',gl',cl',Chg.of hz h hc⟩⟩
  clear h hl h20 hdl harm hla hok hil H1 H2
  go_enter Tryz.func186,Tryz.ntmps186
  go_wp2_with fail
  refine HA.out.mono ?_
  rintro e X ⟨b,rfl,hq⟩
  rcases hq with ⟨rfl,ha,gf,cf,hc⟩ | ⟨rfl,ha,gd,cd,gl,cl,hc⟩
  · have HF:=hid (G1.out ha X gf cf hc)
    clear hc HA
    go_wp2
    go_ret
    exact ⟨false,rfl,HF.out⟩
  · have HC:=hid hc
    have HAR:=hid ha
    clear hc HA ha
    have HFG:=hid (forgetViewV _ B X HC.out.at_)
    go_wp2_with fail
    refine HFG.out.mono ?_
    rintro e Y ⟨rfl,hc⟩
    have HF:=hid (G2.out HAR.out Y gd cd gl cl (HC.out.trans hc))
    clear hc
    go_wp2
    go_ret
    exact ⟨true,rfl,HF.out⟩
section
variable (v:PV) (B:Nat) (w:World) (h:v.At w B)
include h
theorem isNewsV (hv:v.m.view=0) (hla:v.m.last=0) (frm:Int) (n:Nat) (a:Option Addr) (cap:Nat) (ls:List Ln):Calls Tryz.prog 185 #[.pointer (some ⟨B,0,none⟩),.agg #[.int .i64 frm,.int .i64 0,.int .i64 n,.slice a ls.length cap]] w fun e w'=>e=.returned (.bool (decide (v.m.ls.length < ls.length)))∧Below w.heap.size w w':=by
  have VV:Hid (∀ z,Below w.heap.size w z→Calls Tryz.prog 88 #[.pointer (some ⟨B,0,none⟩)] z fun e w'=>e=.returned (.int .i64 0)∧Below z.heap.size z w'):=fun z hz=>by have:=viewV v B z (h.below hz);rw [hv] at this;exact this
  have IV:Hid (∀ z,Below w.heap.size w z→Calls Tryz.prog 132 #[.pointer (some ⟨B,0,none⟩)] z fun e w'=>e=.returned (.bool true)∧Below z.heap.size z w'):=fun z hz=>by have:=inViewV v B z (h.below hz);rw [hv,hla] at this;exact this
  have LV:Hid (∀ z,Below w.heap.size w z→Calls Tryz.prog 83 #[.pointer (some ⟨B,0,none⟩)] z fun e w'=>e=.returned (.slice (v.gl.map fun k=>⟨k,0,none⟩) v.m.ls.length v.cl)∧Below z.heap.size z w'):=fun z hz=>linesV v B z (h.below hz)
  have HB:=hid ((Below.refl _ w).alloc (Nat.le_refl _) (.cells #[.int .i64 frm,.int .i64 0,.int .i64 n,.slice a ls.length cap] 158))
  have HP:=hid (heap_alloc_new w (.cells #[.int .i64 frm,.int .i64 0,.int .i64 n,.slice a ls.length cap] 158))
  clear h hv hla
  go_enter Tryz.func185,Tryz.ntmps185
  go_wp2
  generalize w.alloc (.cells #[.int .i64 frm,.int .i64 0,.int .i64 n,.slice a ls.length cap] 158)=X at *
  have hS0:(fun z:World=>Below w.heap.size w z∧z.heap[w.heap.size]?=some (.cells #[.int .i64 frm,.int .i64 0,.int .i64 n,.slice a ls.length cap] 158 (0,0))) X.drew:=⟨HB.out.drew,HP.out⟩
  refine wp_region_held_drew (S:=fun z:World=>Below w.heap.size w z∧z.heap[w.heap.size]?=some (.cells #[.int .i64 frm,.int .i64 0,.int .i64 n,.slice a ls.length cap] 158 (0,0))) (by kernel_rfl) hS0 (fun hS=>?_)
  clear hS0 HB HP
  refine tH 0 hS ?_
  try simp only [lA,lB,lC,Act.put,lD,lE,lF]
  refine tH 1 hS ?_
  try simp only [lA,lB,lC,Act.put,lD,lE,lF]
  refine tH 3 hS ?_
  try simp only [lA,lB,lC,Act.put,lD,lE,lF]
  refine tH 2 hS ?_ (hy:=by (intro w hw;have hw:=hw.2;have s0:=cell_of_heap hw 0;have s1:=cell_of_heap hw 1;have s2:=cell_of_heap hw 2;have s3:=cell_of_heap hw 3;simp only [List.getElem?_toArray,List.getElem?_cons_zero,List.getElem?_cons_succ] at s0 s1 s2 s3;clear hw;go_simp;try with_reducible rfl))
  try simp only [lA,lB,lC,Act.put,lD,lE,lF]
  refine wpAnyH_ready (rs:=[4]) (by kernel_rfl) (by simp) ?_
  refine AllReadyH.cons rfl (fun K hK=>?_) AllReadyH.nil
  go_simp
  refine (VV.out _ hS.1).mono ?_
  rintro e X1 ⟨rfl,hb⟩
  refine hK.out _ _ ⟨hS.1.trans (hb.mono hS.1.size),(hb.block _ (heap_lt hS.2)).trans hS.2⟩ (fun hS=>?_)
  clear hK K hb
  refine tH 5 hS ?_
  try simp only [lA,lB,lC,Act.put,lD,lE,lF]
  refine tH 6 hS ?_
  try simp only [lA,lB,lC,Act.put,lD,lE,lF]
  refine tH 7 hS ?_
  try simp only [lA,lB,lC,Act.put,lD,lE,lF]
  refine wpAnyH_ready (rs:=[8]) (by kernel_rfl) (by simp) ?_
  refine AllReadyH.cons rfl (fun K hK=>?_) AllReadyH.nil
  go_simp
  refine (IV.out _ hS.1).mono ?_
  rintro e X2 ⟨rfl,hb⟩
  refine hK.out _ _ ⟨hS.1.trans (hb.mono hS.1.size),(hb.block _ (heap_lt hS.2)).trans hS.2⟩ (fun hS=>?_)
  clear hK K hb
  refine tH 9 hS ?_
  try simp only [lA,lB,lC,Act.put,lD,lE,lF]
  refine tH 10 hS ?_
  try simp only [lA,lB,lC,Act.put,lD,lE,lF]
  refine tH 11 hS ?_
  try simp only [lA,lB,lC,Act.put,lD,lE,lF]
  refine tH 12 hS ?_
  try simp only [lA,lB,lC,Act.put,lD,lE,lF]
  refine tH 13 hS ?_ (hy:=by (intro w hw;have hw:=hw.2;have s0:=cell_of_heap hw 0;have s1:=cell_of_heap hw 1;have s2:=cell_of_heap hw 2;have s3:=cell_of_heap hw 3;simp only [List.getElem?_toArray,List.getElem?_cons_zero,List.getElem?_cons_succ] at s0 s1 s2 s3;clear hw;go_simp;try with_reducible rfl))
  try simp only [lA,lB,lC,Act.put,lD,lE,lF]
  refine tH 14 hS ?_
  try simp only [lA,lB,lC,Act.put,lD,lE,lF]
  refine tH 15 hS ?_
  try simp only [lA,lB,lC,Act.put,lD,lE,lF]
  refine wpAnyH_ready (rs:=[16]) (by kernel_rfl) (by simp) ?_
  refine AllReadyH.cons rfl (fun K hK=>?_) AllReadyH.nil
  go_simp
  refine (LV.out _ hS.1).mono ?_
  rintro e X3 ⟨rfl,hb⟩
  refine hK.out _ _ ⟨hS.1.trans (hb.mono hS.1.size),(hb.block _ (heap_lt hS.2)).trans hS.2⟩ (fun hS=>?_)
  clear hK K hb
  refine tH 17 hS ?_
  try simp only [lA,lB,lC,Act.put,lD,lE,lF]
  refine tH 18 hS ?_
  try simp only [lA,lB,lC,Act.put,lD,lE,lF]
  refine tH 19 hS ?_
  try simp only [lA,lB,lC,Act.put,lD,lE,lF]
  refine tH 20 hS ?_
  try simp only [lA,lB,lC,Act.put,lD,lE,lF]
  refine wpAnyH_done (by kernel_rfl) ?_ _
  have HB3:=hid hS.1
  clear hS
  go_wp2
  go_ret
  exact ⟨by simp,HB3.out⟩
theorem hearBeginV (Q:Ending→World→Prop) (hl:v.lost=[]) (hv:v.m.view=0) (hla:v.m.last=0) (h20:v.m.ls.length≤20) (hag:v.ag≤20) (hdl:v.d.length≤9900000) (harm:0≤v.arm∧v.arm≤9223372036854775807) (frm:Int) (n:Nat) (hn:n≤20) (a:Option Addr) (cap:Nat) (ls:List Ln) (hLA:LinesAt w a ls) (hna:∀ p,a=some p→0 < ls.length→p.block≠B) (hok:linesOk ls=true)
    (H1:v.m.ls.length < ls.length→v.arm=1→∀ e y gf cf,OutsChg w B v (v.crash (3 :: 0 :: linesBytes ls) gf cf) [] e y→Q e y)
    (H2:v.m.ls.length < ls.length→v.arm≠1→∀ e y gd cd gl cl,OutsChg w B v { v.took ls (armNext v.arm) gd cd gl cl with ag:=min (max v.ag n) ls.length } [⟨false,frm,packS ⟨3,v.me,0,ls.length,0,0,Ln.zero,[]⟩⟩] e y→Q e y)
    (H3:ls.length≤v.m.ls.length→∀ e y,OutsChg w B v { v with ag:=min (max v.ag n) v.m.ls.length } [⟨false,frm,packS ⟨3,v.me,v.m.view,v.m.ls.length,0,0,Ln.zero,[]⟩⟩] e y→Q e y) :
    Calls Tryz.prog 168 #[.pointer (some ⟨B,0,none⟩),.agg #[.int .i64 frm,.int .i64 0,.int .i64 n,.slice a ls.length cap]] w Q:=by
  have HV:=hid h
  have hlt:=h.lt
  have hws:(w.setCell ⟨B,15,none⟩ (.int .i64 0)).heap.size=w.heap.size:=by simp [World.setCell]
  have HC:=hid (h.unwait.below ((Below.refl _ _).alloc (Nat.le_refl _) (.cells #[.int .i64 frm,.int .i64 0,.int .i64 n,.slice a ls.length cap] 158)))
  have HP:Hid (((w.setCell ⟨B,15,none⟩ (.int .i64 0)).alloc (.cells #[.int .i64 frm,.int .i64 0,.int .i64 n,.slice a ls.length cap] 158)).heap[w.heap.size]?=some (.cells #[.int .i64 frm,.int .i64 0,.int .i64 n,.slice a ls.length cap] 158 (0,0))):=by have:=heap_alloc_new (w.setCell ⟨B,15,none⟩ (.int .i64 0)) (.cells #[.int .i64 frm,.int .i64 0,.int .i64 n,.slice a ls.length cap] 158);rw [hws] at this;exact this
  have HLX:Hid (LinesAt ((w.setCell ⟨B,15,none⟩ (.int .i64 0)).alloc (.cells #[.int .i64 frm,.int .i64 0,.int .i64 n,.slice a ls.length cap] 158)) a ls):=by
    refine LinesAt.alloc (fun j hj=>?_) _
    obtain ⟨q,o,e,l0,l1,l2⟩:=hLA j hj
    have hqB:q≠B:=hna _ e (by omega)
    exact ⟨q,o,e,(cell_set_ne _ (.inl (Ne.symm hqB))).trans l0,(cell_set_ne _ (.inl (Ne.symm hqB))).trans l1,(cell_set_ne _ (.inl (Ne.symm hqB))).trans l2⟩
  have c15:w.cell? ⟨B,15,none⟩=some (.int .i64 0):=cell_of_heap h.blk 15
  have f15:w.frozen? ⟨B,15,none⟩=false:=frozen_of_heap h.blk 15
  have G1:=hid H1
  have G2:=hid H2
  have G3:=hid H3
  have HL0:=hid hl
  have HVW:=hid hv
  have HLA2:=hid hla
  have HOK:=hid hok
  clear h H1 H2 H3 hws hl hv hla hLA hna hok
  have hl20:=(linesOk_all HOK.out).1
  go_enter Tryz.func168,Tryz.ntmps168
  go_wp2_with fail
  generalize (w.setCell ⟨B,15,none⟩ (.int .i64 0)).alloc (.cells #[.int .i64 frm,.int .i64 0,.int .i64 n,.slice a ls.length cap] 158)=X at *
  clear c15 f15
  refine (isNewsV v B X HC.out.at_ HVW.out HLA2.out frm n a cap ls).mono ?_
  rintro e X1 ⟨rfl,hb⟩
  have HC1:=hid (HC.out.below hb)
  have HP1:=hid ((hb.block _ (heap_lt HP.out)).trans HP.out)
  have HL1:=hid (HLX.out.below hb)
  clear hb HC HP HLX
  have r0:=cell_of_heap HP1.out 0
  have r1:=cell_of_heap HP1.out 1
  have r2:=cell_of_heap HP1.out 2
  have r3:=cell_of_heap HP1.out 3
  simp only [List.getElem?_toArray,List.getElem?_cons_zero,List.getElem?_cons_succ] at r0 r1 r2 r3
  by_cases h1:v.m.ls.length < ls.length
  · rw [decide_eq_true h1]
    have HBV:=hid (beginViewV (fun b y=>y.heap[w.heap.size]?=some (.cells #[.int .i64 frm,.int .i64 0,.int .i64 n,.slice a ls.length cap] 158 (0,0))∧((b=false∧∀ e,e=.returned (.slice none 0 0)→Q e y)∨(b=true∧v.arm≠1∧∃ gd cd gl cl,Chg w y B v (v.took ls (armNext v.arm) gd cd gl cl)))) v B X1 HC1.out.at_ HL0.out h20 hdl harm a cap ls HL1.out HOK.out
      (fun ha y gf cf hc=>⟨hc.keepB HC1.out.at_ HP1.out (by decide) (by decide) (by decide),.inl ⟨rfl,fun e he=>by rw [he];exact G1.out h1 ha _ y gf cf (OutsChg.nil (HC1.out.trans hc))⟩⟩)
      (fun ha y gd cd gl cl hc=>⟨hc.keepB HC1.out.at_ HP1.out (by decide) (by decide) (by decide),.inr ⟨rfl,ha,gd,cd,gl,cl,HC1.out.trans hc⟩⟩))
    go_wp2_with fail
    refine HBV.out.mono ?_
    rintro e Y ⟨b,rfl,hp2,hq⟩
    have HP2:=hid hp2
    clear hp2 r0 r1 r2 r3 HBV
    rcases hq with ⟨rfl,hq⟩ | ⟨rfl,ha,gd,cd,gl,cl,hch⟩
    · have HQ:=hid hq
      clear hq
      go_wp2
      exact HQ.out _ rfl
    · have HC2:=hid hch
      have HA:=hid ha
      clear hch ha
      have r0:=cell_of_heap HP2.out 0
      have r1:=cell_of_heap HP2.out 1
      have r2:=cell_of_heap HP2.out 2
      have r3:=cell_of_heap HP2.out 3
      simp only [List.getElem?_toArray,List.getElem?_cons_zero,List.getElem?_cons_succ] at r0 r1 r2 r3
      have HHD:=hid (holdV _ B Y HC2.out.at_ frm 0 n hn hag hl20)
      go_wp2_with fail
      refine HHD.out.mono ?_
      intro e y hh
      have HF:=hid (G2.out h1 HA.out e y gd cd gl cl (OutsChg.of HC2.out hh))
      obtain ⟨a9,n9,q9,rfl⟩:=hh.form
      go_wp2
      exact HF.out
  · rw [decide_eq_false h1]
    have HHD:=hid (holdV v B X1 HC1.out.at_ frm 0 n hn hag h20)
    go_wp2_with fail
    refine HHD.out.mono ?_
    intro e y hh
    have HF:=hid (G3.out (by omega) e y (OutsChg.of HC1.out hh))
    obtain ⟨a9,n9,q9,rfl⟩:=hh.form
    go_wp2
    exact HF.out
end
end
end Go.Proofs.YtolififimldmlaaGreat
