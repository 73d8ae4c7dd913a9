import Derived.Test.YtolififimldmlaaGreatPart36
import Derived.Test.YtolififimldmlaaGreatPart34
set_option linter.unusedVariables false
set_option linter.unusedSimpArgs false
set_option maxRecDepth 100000
set_option maxHeartbeats 16000000
namespace Go.Proofs.YtolififimldmlaaGreat
section
open Go.RowKit
attribute [local go_sem ↓] Go.wp_at_zero Go.wp_at_succ
theorem OwnOuts.one {w X:World} {gb:Option Nat} {cb:Nat} {x:OutG} (hb:Below w.heap.size w X) (hx:OwnBytes w X gb cb x.b) :
    OwnOuts w (X.alloc (.cells #[.bool x.cl,.int .i64 x.tk,sl gb x.b.length cb] 71)) (some X.heap.size) 1 [x] (fun _=>gb) (fun _=>cb):=by
  have hn:=heap_alloc_new X (.cells #[.bool x.cl,.int .i64 x.tk,sl gb x.b.length cb] 71)
  refine ⟨.inr ⟨_,_,rfl,hn,rfl,Nat.le_refl _,by simp [maxLen]⟩,fun k e=>?_,fun j hj=>⟨X.heap.size,rfl,?_⟩,fun j hj=>?_,fun j hj k e e2=>?_,fun i j hij hj=>?_⟩
  · cases e;exact hb.size
  · have:j=0:=by simpa using hj
    subst this
    exact ⟨cell_of_heap hn 0,cell_of_heap hn 1,cell_of_heap hn 2⟩
  · have:j=0:=by simpa using hj
    subst this
    exact hx.below ((Below.refl _ X).alloc (Nat.le_refl _) _)
  · cases e2
    have:=hx.own.lt e
    omega
  · simp at hj;omega
theorem answer_of (x:Value) (f:Fr) (frm view:Int) (w:World) (HBy:∀ z,Below w.heap.size w z→Calls Tryz.prog 176 #[x] z (BytesRet z f)):Calls Tryz.prog 165 #[.agg #[.int .i64 frm,.int .i64 view],x] w (OutsRet w [⟨false,frm,packS f⟩]):=by
  have HT:Hid (∀ z,Below w.heap.size w z→Calls Tryz.prog 135 #[.int .i64 frm,x] z (OutRet z false frm (packS f))):=fun z hz=>toKeeper_of x f frm z (fun y hy=>HBy y (hz.trans (hy.mono hz.size)))
  unfold OutRet at HT
  have HX:Hid (∀ X gb cb,Below w.heap.size w X→OwnBytes w X gb cb (packS f)→OutsRet w [⟨false,frm,packS f⟩] (.returned (.slice (some ⟨X.heap.size,0,none⟩) 1 1)) (X.alloc (.cells #[.bool false,.int .i64 frm,sl gb (packS f).length cb] 71))):=fun X gb cb h1 h2=>⟨_,_,_,_,rfl,OwnOuts.one (x:=⟨false,frm,packS f⟩) h1 h2,h1.alloc h1.size _⟩
  generalize packS f=pb at *
  generalize OutsRet w [⟨false,frm,pb⟩]=Q at *
  clear HBy
  unfold sl at HX
  go_enter Tryz.func165,Tryz.ntmps165
  go_wp2_with fail
  refine (HT.out _ ((Below.refl _ _).alloc (Nat.le_refl _) _)).mono ?_
  rintro e X ⟨gb,cb,rfl,ho,hb⟩
  have HB:Hid (Below w.heap.size w X):=((Below.refl _ w).alloc (Nat.le_refl _) _).trans (hb.mono (by simp))
  have HO:=hid (ho.base (u:=w) (by simp))
  clear hb ho HT
  unfold sl
  go_wp2
  exact HX.out X gb cb HB.out HO.out
section
variable (v:PV) (B:Nat) (w:World) (h:v.At w B)
include h
theorem lagV (frm view:Int):Calls Tryz.prog 169 #[.pointer (some ⟨B,0,none⟩),.agg #[.int .i64 frm,.int .i64 view]] w (OutsRet w [⟨false,frm,packS ⟨8,v.me,view,0,0,0,Ln.zero,[]⟩⟩]):=by
  have HA:Hid (∀ z,Calls Tryz.prog 165 #[.agg #[.int .i64 frm,.int .i64 view],.iface 209 (.agg #[.int .i64 v.me,.int .i64 view])] z (OutsRet z [⟨false,frm,packS ⟨8,v.me,view,0,0,0,Ln.zero,[]⟩⟩])):=fun z=>answer_of _ ⟨8,v.me,view,0,0,0,Ln.zero,[]⟩ frm view z (fun y _=>bytesLag v.me view y)
  have HX:Hid (∀ e y (z:World),w.heap.size≤z.heap.size→Below w.heap.size w z→OutsRet z [⟨false,frm,packS ⟨8,v.me,view,0,0,0,Ln.zero,[]⟩⟩] e y→OutsRet w [⟨false,frm,packS ⟨8,v.me,view,0,0,0,Ln.zero,[]⟩⟩] e y):=fun e y z h0 h1 hh=>by
    obtain ⟨g,c,gs,cs,h2,h3,h4⟩:=hh
    exact ⟨g,c,gs,cs,h2,h3.base h0,h1.trans (h4.mono h0)⟩
  have hlt:=h.lt
  generalize hQ:OutsRet w [⟨false,frm,packS ⟨8,v.me,view,0,0,0,Ln.zero,[]⟩⟩]=Q at *
  clear hQ
  have HN:=hid (heap_alloc_new w (.cells #[.int .i64 frm,.int .i64 view] 151))
  have HB:=hid ((Below.refl _ w).alloc (Nat.le_refl _) (.cells #[.int .i64 frm,.int .i64 view] 151))
  have HV:=hid (h.below HB.out)
  clear h
  go_enter Tryz.func169,Tryz.ntmps169
  go_wp2
  generalize w.alloc (.cells #[.int .i64 frm,.int .i64 view] 151)=X at *
  have q0:X.cell? ⟨w.heap.size,0,none⟩=some (.int .i64 frm):=cell_of_heap HN.out 0
  have q1:X.cell? ⟨w.heap.size,1,none⟩=some (.int .i64 view):=cell_of_heap HN.out 1
  have c1:X.cell? ⟨B,1,none⟩=some (.int .i64 v.me):=cell_of_heap HV.out.blk 1
  go_still_tail 11,(by kernel_rfl)
  go_wp2_with fail
  refine (HA.out _).mono ?_
  intro e y hh
  have HF:=hid (HX.out e y X.drew HB.out.size HB.out.drew hh)
  obtain ⟨g,c,gs,cs,rfl,_⟩:=hh
  unfold sl at *
  go_wp2
  exact HF.out
theorem takeAgreedV (a:Nat) (ha:a≤20) (hag:v.ag≤20) (h20:v.m.ls.length≤20):Calls Tryz.prog 194 #[.pointer (some ⟨B,0,none⟩),.int .i64 a] w fun e w'=>e=.returned (.tuple #[])∧Chg w w' B v { v with ag:=min (max v.ag a) v.m.ls.length }:=by
  have HLN:Hid (∀ z,Below w.heap.size w z→Calls Tryz.prog 83 #[.pointer (some ⟨B,0,none⟩)] z fun e w'=>e=.returned (.slice (v.gl.map fun k=>⟨k,0,none⟩) v.m.ls.length v.cl)∧Below z.heap.size z w'):=fun z hz=>linesV v B z (h.below hz)
  have HV:=hid h
  have C9:Hid (w.cell? ⟨B,9,none⟩=some (.int .i64 v.ag)):=cell_of_heap h.blk 9
  have HMM:Hid ((if (v.m.ls.length:Int) < (if v.ag < a then (a:Int) else (v.ag:Int)) then (v.m.ls.length:Int) else if v.ag < a then (a:Int) else (v.ag:Int))=((min (max v.ag a) v.m.ls.length:Nat):Int)):=by
    show _=_
    (repeat' split) <;> omega
  clear h
  go_enter Tryz.func194,Tryz.ntmps194
  refine wp_region_any (by kernel_rfl) ?_
  try (change wpAny _ _ _ _ _ _ _ (World.drew _))
  have HB0:Hid (Below w.heap.size w w.drew):=(Below.refl _ w).drew
  have c9:w.drew.cell? ⟨B,9,none⟩=some (.int .i64 v.ag):=C9.out
  generalize w.drew=Y at *
  refine tA 0 ?_
  try simp only [lA,lB,lC,Act.put,lD,lE,lF]
  refine tA 1 ?_
  try simp only [lA,lB,lC,Act.put,lD,lE,lF]
  refine tA 2 ?_
  try simp only [lA,lB,lC,Act.put,lD,lE,lF]
  refine tA 3 ?_
  try simp only [lA,lB,lC,Act.put,lD,lE,lF]
  refine tA 5 ?_
  try simp only [lA,lB,lC,Act.put,lD,lE,lF]
  refine tA 7 ?_
  try simp only [lA,lB,lC,Act.put,lD,lE,lF]
  refine wpAny_ready (rs:=[4,8]) (by kernel_rfl) (by simp) ?_
  refine AllReady.cons rfl (fun KK hKK=>?_) (AllReady.cons rfl (fun KK hKK=>?_) AllReady.nil)
  · go_simp
    refine hKK _ _ ?_
    clear hKK KK
    refine tA 6 ?_
    try simp only [lA,lB,lC,Act.put,lD,lE,lF]
    refine wpAny_ready (rs:=[8]) (by kernel_rfl) (by simp) ?_
    refine AllReady.cons rfl (fun KK hKK=>?_) AllReady.nil
    go_simp
    refine (HLN.out _ HB0.out).mono ?_
    rintro e Z ⟨rfl,hb⟩
    have HBZ:=hid (HB0.out.trans (hb.mono HB0.out.size))
    clear hb
    refine hKK _ _ ?_
    clear hKK KK c9
    try simp only [Act.put,List.setIfInBounds_toArray,List.set_cons_zero,List.set_cons_succ]
    refine tA 9 ?_
    try simp only [lA,lB,lC,Act.put,lD,lE,lF]
    refine tA 10 ?_
    try simp only [lA,lB,lC,Act.put,lD,lE,lF]
    refine tA 11 ?_
    try simp only [lA,lB,lC,Act.put,lD,lE,lF]
    refine tA 12 ?_
    try simp only [lA,lB,lC,Act.put,lD,lE,lF]
    rw [HMM.out]
    generalize (if v.ag < a then (a:Int) else (v.ag:Int))=mx
    have HVZ:=hid (HV.out.below HBZ.out)
    have z9:Z.cell? ⟨B,9,none⟩=some (.int .i64 v.ag):=cell_of_heap HVZ.out.blk 9
    have f9:Z.frozen? ⟨B,9,none⟩=false:=frozen_of_heap HVZ.out.blk 9
    have HC:=hid (Chg.of HBZ.out HV.out (HVZ.out.setAg (min (max v.ag a) v.m.ls.length)))
    generalize min (max v.ag a) v.m.ls.length=m at *
    refine wpAny_ready (rs:=[13]) (by kernel_rfl) (by simp) ?_
    refine AllReady.cons rfl (fun K hK=>?_) AllReady.nil
    go_simp
    refine hK _ _ ?_
    clear hK K
    refine wpAny_done (by kernel_rfl) ?_ _
    go_wp2
    go_end0
    exact ⟨rfl,HC.out⟩
  · go_simp
    refine (HLN.out _ HB0.out).mono ?_
    rintro e Z ⟨rfl,hb⟩
    have HBZ:=hid (HB0.out.trans (hb.mono HB0.out.size))
    clear hb
    refine hKK _ _ ?_
    clear hKK KK c9
    try simp only [Act.put,List.setIfInBounds_toArray,List.set_cons_zero,List.set_cons_succ]
    have HVZ:=hid (HV.out.below HBZ.out)
    have z9:Z.cell? ⟨B,9,none⟩=some (.int .i64 v.ag):=cell_of_heap HVZ.out.blk 9
    have f9:Z.frozen? ⟨B,9,none⟩=false:=frozen_of_heap HVZ.out.blk 9
    have HC:=hid (Chg.of HBZ.out HV.out (HVZ.out.setAg (min (max v.ag a) v.m.ls.length)))
    refine tA 9 ?_
    try simp only [lA,lB,lC,Act.put,lD,lE,lF]
    refine wpAny_ready (rs:=[4]) (by kernel_rfl) (by simp) ?_
    refine AllReady.cons rfl (fun K hK=>?_) AllReady.nil
    go_simp
    refine hK _ _ ?_
    clear hK K
    refine tA 6 ?_
    try simp only [lA,lB,lC,Act.put,lD,lE,lF]
    refine tA 10 ?_
    try simp only [lA,lB,lC,Act.put,lD,lE,lF]
    refine tA 11 ?_
    try simp only [lA,lB,lC,Act.put,lD,lE,lF]
    refine tA 12 ?_
    try simp only [lA,lB,lC,Act.put,lD,lE,lF]
    rw [HMM.out]
    generalize (if v.ag < a then (a:Int) else (v.ag:Int))=mx
    generalize min (max v.ag a) v.m.ls.length=m at *
    refine wpAny_ready (rs:=[13]) (by kernel_rfl) (by simp) ?_
    refine AllReady.cons rfl (fun K hK=>?_) AllReady.nil
    go_simp
    refine hK _ _ ?_
    clear hK K
    refine wpAny_done (by kernel_rfl) ?_ _
    go_wp2
    go_end0
    exact ⟨rfl,HC.out⟩
end
def OutsChg (w:World) (B:Nat) (v v':PV) (os:List OutG) (e:Ending) (w':World):Prop:=∃ g c gs cs,e=.returned (sl g os.length c)∧OwnOuts w w' g c os gs cs∧Chg w w' B v v'∧∀ k,(g=some k∨∃ j,j < os.length∧gs j=some k)→¬ v'.own B k
theorem OutsChg.nil {w w':World} {B:Nat} {v v':PV} (h:Chg w w' B v v'):OutsChg w B v v' [] (.returned (.slice none 0 0)) w':=⟨none,0,_,_,rfl,OwnOuts.none_ _ _,h,fun k e=>by
  rcases e with e | ⟨j,hj,_⟩
  · cases e
  · exact absurd hj (Nat.not_lt_zero _)⟩
theorem OutsRet.chg {w w':World} {B:Nat} {v:PV} {os:List OutG} {e:Ending} (h:OutsRet w os e w') (hv:v.At w B):OutsChg w B v v os e w':=by
  obtain ⟨g,c,gs,cs,h1,h2,h3⟩:=h
  refine ⟨g,c,gs,cs,h1,h2,Chg.same hv h3,fun k e e2=>?_⟩
  have:=hv.ownlt e2
  rcases e with e | ⟨j,hj,e⟩
  · have:=h2.new k e;omega
  · have:=(h2.bs j hj).new k e;omega
theorem OutsChg.of {w x w':World} {B:Nat} {v u t:PV} {os:List OutG} {e:Ending} (hc:Chg w x B v u) (h:OutsChg x B u t os e w'):OutsChg w B v t os e w':=by
  obtain ⟨g,c,gs,cs,h1,h2,h3,h4⟩:=h
  exact ⟨g,c,gs,cs,h1,h2.base hc.tch.size,hc.trans h3,h4⟩
theorem OutsChg.form {w x:World} {B:Nat} {v u:PV} {os:List OutG} {e:Ending} (h:OutsChg w B v u os e x):∃ a n q,e=.returned (.slice a n q):=by
  obtain ⟨g,c,gs,cs,h1,_⟩:=h
  exact ⟨_,_,_,h1⟩
theorem Chg.keepB {x y:World} {B Q:Nat} {v u:PV} {cur:Array Value} {e':TypeId} {f:Nat × Nat} (h:Chg x y B v u) (hv:v.At x B) (hQ:x.heap[Q]?=some (.cells cur e' f)) (n1:103≠e') (n2:5≠e') (n3:27≠e'):y.heap[Q]?=some (.cells cur e' f):=by
  have ne:∀ {e:TypeId} {size n c:Nat} {b:Option Nat},OwnRow x e size b n c→e≠e'→b≠some Q:=by
    intro e size n c b hr hne
    rintro rfl
    rcases hr with ⟨h,_⟩ | ⟨g,cu,h,hh,_⟩
    · cases h
    · cases h
      rw [hh] at hQ
      simp at hQ
      exact hne hQ.2.1
  refine h.tch.heapAt hQ (fun e=>?_)
  rcases e with e | e | e | e
  · subst e
    have h1:=hv.blk
    rw [h1] at hQ
    simp at hQ
    exact n1 hQ.2.1
  · exact ne hv.dow n2 e
  · exact ne hv.low n3 e
  · exact ne hv.fow n2 e
section
variable (v:PV) (B:Nat) (w:World) (h:v.At w B)
include h
theorem holdV (frm view:Int) (a:Nat) (ha:a≤20) (hag:v.ag≤20) (h20:v.m.ls.length≤20):Calls Tryz.prog 187 #[.pointer (some ⟨B,0,none⟩),.agg #[.int .i64 frm,.int .i64 view],.int .i64 a] w (OutsChg w B v { v with ag:=min (max v.ag a) v.m.ls.length } [⟨false,frm,packS ⟨3,v.me,v.m.view,v.m.ls.length,0,0,Ln.zero,[]⟩⟩]):=by
  have HV:=hid h
  have HB:=hid ((Below.refl _ w).alloc (Nat.le_refl _) (.cells #[.int .i64 frm,.int .i64 view] 151))
  have HN:=hid (heap_alloc_new w (.cells #[.int .i64 frm,.int .i64 view] 151))
  have HT:=hid (takeAgreedV v B _ (h.below HB.out) a ha hag h20)
  have HX:Hid (∀ x e y,Chg w x B v { v with ag:=min (max v.ag a) v.m.ls.length }→OutsRet x [⟨false,frm,packS ⟨3,v.me,v.m.view,v.m.ls.length,0,0,Ln.zero,[]⟩⟩] e y→OutsChg w B v { v with ag:=min (max v.ag a) v.m.ls.length } [⟨false,frm,packS ⟨3,v.me,v.m.view,v.m.ls.length,0,0,Ln.zero,[]⟩⟩] e y):=fun x e y hc hr=>OutsChg.of hc (hr.chg hc.at_)
  generalize hQ:OutsChg w B v { v with ag:=min (max v.ag a) v.m.ls.length } [⟨false,frm,packS ⟨3,v.me,v.m.view,v.m.ls.length,0,0,Ln.zero,[]⟩⟩]=Q at *
  clear hQ
  have HA:Hid (∀ z,Calls Tryz.prog 165 #[.agg #[.int .i64 frm,.int .i64 view],.iface 204 (.agg #[.int .i64 v.me,.int .i64 v.m.view,.int .i64 v.m.ls.length])] z (OutsRet z [⟨false,frm,packS ⟨3,v.me,v.m.view,v.m.ls.length,0,0,Ln.zero,[]⟩⟩])):=fun z=>answer_of _ ⟨3,v.me,v.m.view,v.m.ls.length,0,0,Ln.zero,[]⟩ frm view z (fun y _=>bytesHold v.me v.m.view v.m.ls.length y)
  generalize hW:w.alloc (.cells #[.int .i64 frm,.int .i64 view] 151)=W0 at HB HN HT
  have HW:=hid hW
  clear hW h
  go_enter Tryz.func187,Tryz.ntmps187
  go_wp2_with fail
  rw [HW.out]
  refine HT.out.mono ?_
  rintro e X ⟨rfl,hch⟩
  have HC:=hid (Chg.of HB.out HV.out hch)
  have HNX:=hid (hch.keepB (HV.out.below HB.out) HN.out (by decide) (by decide) (by decide))
  have HU:=hid hch.at_
  clear hch HT HN
  have HST:Hid (∀ z,Below X.heap.size X z→Calls Tryz.prog 164 #[.pointer (some ⟨B,0,none⟩)] z fun e w'=>e=.returned (.agg #[.int .i64 v.me,.int .i64 v.m.view])∧Below z.heap.size z w'):=fun z hz=>by have:=stampV _ B z (HU.out.below hz);exact this
  have HLN:Hid (∀ z,Below X.heap.size X z→Calls Tryz.prog 83 #[.pointer (some ⟨B,0,none⟩)] z fun e w'=>e=.returned (.slice (v.gl.map fun k=>⟨k,0,none⟩) v.m.ls.length v.cl)∧Below z.heap.size z w'):=fun z hz=>by have:=linesV _ B z (HU.out.below hz);exact this
  go_wp2
  have Q0:Hid (X.cell? ⟨w.heap.size,0,none⟩=some (.int .i64 frm)):=cell_of_heap HNX.out 0
  have Q1:Hid (X.cell? ⟨w.heap.size,1,none⟩=some (.int .i64 view)):=cell_of_heap HNX.out 1
  have hS0:(fun z:World=>Below X.heap.size X z∧z.cell? ⟨w.heap.size,0,none⟩=some (.int .i64 frm)∧z.cell? ⟨w.heap.size,1,none⟩=some (.int .i64 view)) X.drew:=⟨(Below.refl _ _).drew,Q0.out,Q1.out⟩
  refine wp_region_held_drew (S:=fun z:World=>Below X.heap.size X z∧z.cell? ⟨w.heap.size,0,none⟩=some (.int .i64 frm)∧z.cell? ⟨w.heap.size,1,none⟩=some (.int .i64 view)) (by kernel_rfl) hS0 (fun hS=>?_)
  clear hS0
  refine tH 1 hS ?_
  try simp only [lA,lB,lC,Act.put,lD,lE,lF]
  refine tH 3 hS ?_
  try simp only [lA,lB,lC,Act.put,lD,lE,lF]
  refine tH 0 hS ?_ (hy:=by (intro w hw;obtain ⟨_,s0,s1⟩:=hw;go_simp;try with_reducible rfl))
  try simp only [lA,lB,lC,Act.put,lD,lE,lF]
  refine wpAnyH_ready (rs:=[2]) (by kernel_rfl) (by simp) ?_
  refine AllReadyH.cons rfl (fun K hK=>?_) AllReadyH.nil
  go_simp
  refine (HST.out _ hS.1).mono ?_
  rintro e X1 ⟨rfl,hb⟩
  have hb1:=hS.1.trans (hb.mono hS.1.size)
  refine hK.out _ _ ⟨hb1,(Below.cell hb1 (World.block_lt_of_cell? _ _ Q0.out)).trans Q0.out,(Below.cell hb1 (World.block_lt_of_cell? _ _ Q1.out)).trans Q1.out⟩ (fun hS=>?_)
  clear hK K hb hb1
  refine wpAnyH_ready (rs:=[4]) (by kernel_rfl) (by simp) ?_
  refine AllReadyH.cons rfl (fun K hK=>?_) AllReadyH.nil
  go_simp
  refine (HLN.out _ hS.1).mono ?_
  rintro e X2 ⟨rfl,hb⟩
  have hb1:=hS.1.trans (hb.mono hS.1.size)
  refine hK.out _ _ ⟨hb1,(Below.cell hb1 (World.block_lt_of_cell? _ _ Q0.out)).trans Q0.out,(Below.cell hb1 (World.block_lt_of_cell? _ _ Q1.out)).trans Q1.out⟩ (fun hS=>?_)
  clear hK K hb hb1
  refine tH 5 hS ?_
  try simp only [lA,lB,lC,Act.put,lD,lE,lF]
  refine tH 6 hS ?_
  try simp only [lA,lB,lC,Act.put,lD,lE,lF]
  refine tH 7 hS ?_
  try simp only [lA,lB,lC,Act.put,lD,lE,lF]
  refine wpAnyH_ready (rs:=[8]) (by kernel_rfl) (by simp) ?_
  refine AllReadyH.cons rfl (fun K hK=>?_) AllReadyH.nil
  go_simp
  refine (HA.out _).mono ?_
  intro e X3 hh
  have HF:=hid (HX.out X2 e X3 (HC.out.below hS.1) hh)
  obtain ⟨g,c,gs,cs,rfl,_,hb⟩:=hh
  have hb1:=hS.1.trans (hb.mono hS.1.size)
  refine hK.out _ _ ⟨hb1,(Below.cell hb1 (World.block_lt_of_cell? _ _ Q0.out)).trans Q0.out,(Below.cell hb1 (World.block_lt_of_cell? _ _ Q1.out)).trans Q1.out⟩ (fun hS=>?_)
  clear hK K hb hb1
  unfold sl at *
  refine tH 9 hS ?_
  try simp only [lA,lB,lC,Act.put,lD,lE,lF]
  refine wpAnyH_done (by kernel_rfl) ?_ _
  clear hS
  go_wp2
  exact HF.out
end
def PV.remF (v:PV) (t:Int):Fr:=if v.hs t.toNat < v.m.ls.length then ⟨2,v.me,v.m.view,v.hs t.toNat+1,v.ag,0,v.m.ls.getD (v.hs t.toNat).toNat Ln.zero,[]⟩ else ⟨4,v.me,v.m.view,0,v.ag,0,Ln.zero,[]⟩
section
variable (v:PV) (B:Nat) (w:World) (h:v.At w B)
include h
theorem reminderV (t:Int) (h0:0≤t) (h5:t < 5) (hh0:0≤v.hs t.toNat) (h20:v.m.ls.length≤20):Calls Tryz.prog 136 #[.pointer (some ⟨B,0,none⟩),.int .i64 t] w fun e w'=>∃ T x,e=.returned (.iface T x)∧(∀ y,Calls Tryz.prog 176 #[.iface T x] y (BytesRet y (v.remF t)))∧Below w.heap.size w w':=by
  have LV:Hid (∀ z,Below w.heap.size w z→Calls Tryz.prog 83 #[.pointer (some ⟨B,0,none⟩)] z fun e w'=>e=.returned (.slice (v.gl.map fun k=>⟨k,0,none⟩) v.m.ls.length v.cl)∧Below z.heap.size z w'):=fun z hz=>linesV v B z (h.below hz)
  have ch:w.cell? ⟨B,10+t.toNat,none⟩=some (.int .i64 (v.hs t.toNat)):=holds_cell h t h0 h5
  obtain ⟨k,rfl⟩:∃ k:Nat,t=k:=⟨t.toNat,by omega⟩
  rw [Int.toNat_natCast] at ch hh0
  unfold PV.remF
  rw [Int.toNat_natCast]
  obtain ⟨H,hH⟩:∃ H:Nat,v.hs k=H:=⟨(v.hs k).toNat,by omega⟩
  rw [hH] at ch hh0 ⊢
  clear hH hh0
  by_cases hlt:(H:Int) < v.m.ls.length
  · rw [if_pos hlt]
    have PV1:Hid (∀ z,Below w.heap.size w z→Calls Tryz.prog 125 #[.pointer (some ⟨B,0,none⟩),.int .i64 (H+1:Nat)] z fun e w'=>e=.returned (.agg #[.int .i64 v.me,.int .i64 v.m.view,.int .i64 (H+1:Nat),.int .i64 v.ag,.int .i64 (v.m.ls.getD H Ln.zero).c,.int .i64 (v.m.ls.getD H Ln.zero).t,.string ⟨(v.m.ls.getD H Ln.zero).s.toArray⟩])∧Below z.heap.size z w'):=fun z hz=>by
      have hHl:H < v.m.ls.length:=by omega
      have:=prepareV v B z (h.below hz) H hHl (by omega)
      rw [getD_at v.m.ls H Ln.zero hHl]
      exact this
    have HBY:Hid (∀ y,Calls Tryz.prog 176 #[.iface 153 (.agg #[.int .i64 v.me,.int .i64 v.m.view,.int .i64 (H+1:Nat),.int .i64 v.ag,.int .i64 (v.m.ls.getD H Ln.zero).c,.int .i64 (v.m.ls.getD H Ln.zero).t,.string ⟨(v.m.ls.getD H Ln.zero).s.toArray⟩])] y (BytesRet y ⟨2,v.me,v.m.view,(H:Int)+1,v.ag,0,v.m.ls.getD (H:Int).toNat Ln.zero,[]⟩)):=fun y=>by
      rw [Int.toNat_natCast]
      exact bytesPrepare v.me v.m.view (H+1:Nat) v.ag _ _ _ y
    generalize (BytesRet · (⟨2,v.me,v.m.view,(H:Int)+1,v.ag,0,v.m.ls.getD (H:Int).toNat Ln.zero,[]⟩:Fr))=BR at *
    generalize v.m.ls.getD H Ln.zero=ln at *
    clear h
    have hlt':(H:Int) < (v.m.ls.length:Int):=hlt
    have w1:IntKind.i64.wrap ((H:Int)+1)=(H:Int)+1:=by rw [IntWalk.i64_left,IntWalk.wrap64_in _ (by omega)]
    go_enter Tryz.func136,Tryz.ntmps136
    go_wp2_with fail
    refine (LV.out _ (Below.refl _ _)).mono ?_
    rintro e X1 ⟨rfl,hb1⟩
    have HB1:=hid hb1
    clear hb1 ch
    go_wp2_with fail
    refine (PV1.out _ HB1.out).mono ?_
    rintro e X2 ⟨rfl,hb2⟩
    have HB2:=hid (HB1.out.trans (hb2.mono HB1.out.size))
    clear hb2
    go_wp2
    go_ret
    exact ⟨_,_,rfl,HBY.out,HB2.out⟩
  · rw [if_neg hlt]
    have HBY:Hid (∀ y,Calls Tryz.prog 176 #[.iface 156 (.agg #[.int .i64 v.me,.int .i64 v.m.view,.int .i64 v.ag])] y (BytesRet y ⟨4,v.me,v.m.view,0,v.ag,0,Ln.zero,[]⟩)):=fun y=>bytesBeat v.me v.m.view v.ag y
    have ST:Hid (∀ z,Below w.heap.size w z→Calls Tryz.prog 164 #[.pointer (some ⟨B,0,none⟩)] z fun e w'=>e=.returned (.agg #[.int .i64 v.me,.int .i64 v.m.view])∧Below z.heap.size z w'):=fun z hz=>stampV v B z (h.below hz)
    have C9:Hid (w.cell? ⟨B,9,none⟩=some (.int .i64 v.ag)):=cell_of_heap h.blk 9
    clear h
    have hlt':¬ (H:Int) < (v.m.ls.length:Int):=hlt
    go_enter Tryz.func136,Tryz.ntmps136
    go_wp2_with fail
    refine (LV.out _ (Below.refl _ _)).mono ?_
    rintro e X1 ⟨rfl,hb1⟩
    have HB1:=hid hb1
    clear hb1 ch
    go_wp2
    have hS0:(fun z:World=>Below w.heap.size w z∧z.cell? ⟨B,9,none⟩=some (.int .i64 v.ag)) X1.drew:=⟨HB1.out.drew,(Below.cell HB1.out (World.block_lt_of_cell? _ _ C9.out)).trans C9.out⟩
    refine wp_region_held_drew (S:=fun z:World=>Below w.heap.size w z∧z.cell? ⟨B,9,none⟩=some (.int .i64 v.ag)) (by kernel_rfl) hS0 (fun hS=>?_)
    clear hS0
    refine tH 0 hS ?_
    try simp only [lA,lB,lC,Act.put,lD,lE,lF]
    refine tH 2 hS ?_
    try simp only [lA,lB,lC,Act.put,lD,lE,lF]
    refine tH 3 hS ?_
    try simp only [lA,lB,lC,Act.put,lD,lE,lF]
    refine tH 4 hS ?_
    try simp only [lA,lB,lC,Act.put,lD,lE,lF]
    refine tH 5 hS ?_ (hy:=by (intro w hw;obtain ⟨_,s0⟩:=hw;go_simp;try with_reducible rfl))
    try simp only [lA,lB,lC,Act.put,lD,lE,lF]
    refine wpAnyH_ready (rs:=[1]) (by kernel_rfl) (by simp) ?_
    refine AllReadyH.cons rfl (fun K hK=>?_) AllReadyH.nil
    go_simp
    refine (ST.out _ hS.1).mono ?_
    rintro e X2 ⟨rfl,hb⟩
    have hb1:=hS.1.trans (hb.mono hS.1.size)
    refine hK.out _ _ ⟨hb1,(Below.cell hb1 (World.block_lt_of_cell? _ _ C9.out)).trans C9.out⟩ (fun hS=>?_)
    clear hK K hb
    refine tH 6 hS ?_
    try simp only [lA,lB,lC,Act.put,lD,lE,lF]
    refine tH 7 hS ?_
    try simp only [lA,lB,lC,Act.put,lD,lE,lF]
    refine tH 8 hS ?_
    try simp only [lA,lB,lC,Act.put,lD,lE,lF]
    refine wpAnyH_done (by kernel_rfl) ?_ _
    have HB2:=hid hb1
    clear hb1 hS
    go_wp2
    go_ret
    exact ⟨_,_,rfl,HBY.out,HB2.out⟩
end
theorem PV.At.unwait {v:PV} {w:World} {B:Nat} (h:v.At w B):Chg w (w.setCell ⟨B,15,none⟩ (.int .i64 0)) B v v :=
  h.cellChg (by unfold progCells;simp only [List.setIfInBounds_toArray,List.set_cons_zero,List.set_cons_succ]) ⟨rfl,rfl,rfl,rfl,rfl,rfl,rfl,rfl,rfl⟩
section
variable (v:PV) (B:Nat) (w:World) (h:v.At w B)
include h
theorem hearBeatV (Q:Ending→World→Prop) (frm view:Int) (n:Nat) (hn:n≤20) (hag:v.ag≤20) (h20:v.m.ls.length≤20)
    (H1:v.m.ls.length < n→∀ e y,OutsChg w B v v [⟨false,frm,packS ⟨8,v.me,view,0,0,0,Ln.zero,[]⟩⟩] e y→Q e y)
    (H2:n≤v.m.ls.length→∀ e y,OutsChg w B v { v with ag:=min (max v.ag n) v.m.ls.length } [⟨false,frm,packS ⟨3,v.me,v.m.view,v.m.ls.length,0,0,Ln.zero,[]⟩⟩] e y→Q e y) :
    Calls Tryz.prog 190 #[.pointer (some ⟨B,0,none⟩),.agg #[.int .i64 frm,.int .i64 view,.int .i64 n]] w Q:=by
  have HV:=hid h
  have hlt:=h.lt
  have hws:(w.setCell ⟨B,15,none⟩ (.int .i64 0)).heap.size=w.heap.size:=by simp [World.setCell]
  have HC:=hid (h.unwait.below ((Below.refl _ _).alloc (Nat.le_refl _) (.cells #[.int .i64 frm,.int .i64 view,.int .i64 n] 156)))
  have HM:Hid (MBox w.heap.size 156 (.int .i64 frm) (.int .i64 view) (.int .i64 n) ((w.setCell ⟨B,15,none⟩ (.int .i64 0)).alloc (.cells #[.int .i64 frm,.int .i64 view,.int .i64 n] 156))):=by have:=heap_alloc_new (w.setCell ⟨B,15,none⟩ (.int .i64 0)) (.cells #[.int .i64 frm,.int .i64 view,.int .i64 n] 156);rw [hws] at this;exact this
  have c15:w.cell? ⟨B,15,none⟩=some (.int .i64 0):=cell_of_heap h.blk 15
  have f15:w.frozen? ⟨B,15,none⟩=false:=frozen_of_heap h.blk 15
  have G1:=hid H1
  have G2:=hid H2
  clear h H1 H2 hws
  go_enter Tryz.func190,Tryz.ntmps190
  go_wp2
  generalize (w.setCell ⟨B,15,none⟩ (.int .i64 0)).alloc (.cells #[.int .i64 frm,.int .i64 view,.int .i64 n] 156)=X at *
  clear c15 f15
  have HLN:Hid (∀ z,Below X.heap.size X z→Calls Tryz.prog 83 #[.pointer (some ⟨B,0,none⟩)] z fun e w'=>e=.returned (.slice (v.gl.map fun k=>⟨k,0,none⟩) v.m.ls.length v.cl)∧Below z.heap.size z w'):=fun z hz=>by have:=linesV _ B z (HC.out.at_.below hz);exact this
  have Q2:Hid (X.cell? ⟨w.heap.size,2,none⟩=some (.int .i64 n)):=cell_of_heap HM.out 2
  have hS0:(fun z:World=>Below X.heap.size X z∧z.cell? ⟨w.heap.size,2,none⟩=some (.int .i64 n)) X.drew:=⟨(Below.refl _ _).drew,Q2.out⟩
  refine wp_region_held_drew (S:=fun z:World=>Below X.heap.size X z∧z.cell? ⟨w.heap.size,2,none⟩=some (.int .i64 n)) (by kernel_rfl) hS0 (fun hS=>?_)
  clear hS0
  refine tH 0 hS ?_
  try simp only [lA,lB,lC,Act.put,lD,lE,lF]
  refine tH 2 hS ?_
  try simp only [lA,lB,lC,Act.put,lD,lE,lF]
  refine tH 1 hS ?_ (hy:=by (intro w hw;obtain ⟨_,s0⟩:=hw;go_simp;try with_reducible rfl))
  try simp only [lA,lB,lC,Act.put,lD,lE,lF]
  refine wpAnyH_ready (rs:=[3]) (by kernel_rfl) (by simp) ?_
  refine AllReadyH.cons rfl (fun K hK=>?_) AllReadyH.nil
  go_simp
  refine (HLN.out _ hS.1).mono ?_
  rintro e X1 ⟨rfl,hb⟩
  have hb1:=hS.1.trans (hb.mono hS.1.size)
  refine hK.out _ _ ⟨hb1,(Below.cell hb1 (World.block_lt_of_cell? _ _ Q2.out)).trans Q2.out⟩ (fun hS=>?_)
  clear hK K hb
  refine tH 4 hS ?_
  try simp only [lA,lB,lC,Act.put,lD,lE,lF]
  refine tH 5 hS ?_
  try simp only [lA,lB,lC,Act.put,lD,lE,lF]
  refine wpAnyH_done (by kernel_rfl) ?_ _
  have HC1:=hid (HC.out.below hb1)
  have HM1:=hid ((hb1.block _ (heap_lt HM.out)).trans HM.out)
  clear hb1 hS Q2 HC HM HLN
  obtain ⟨m0,m1,m2,fm⟩:=mbox_cells HM1.out
  rcases Nat.lt_or_ge v.m.ls.length n with h1 | h1
  · have h1':(v.m.ls.length:Int) < (n:Int):=by omega
    have HLG:=hid (lagV v B X1 HC1.out.at_ frm view)
    go_wp2_with fail
    refine HLG.out.mono ?_
    intro e y hh
    have HF:=hid (G1.out h1 e y (OutsChg.of HC1.out (hh.chg HC1.out.at_)))
    obtain ⟨g,c,gs,cs,rfl,_⟩:=hh
    unfold sl at *
    go_wp2
    exact HF.out
  · have h1':¬ (v.m.ls.length:Int) < (n:Int):=by omega
    have HHD:=hid (holdV v B X1 HC1.out.at_ frm view n hn hag h20)
    go_wp2_with fail
    refine HHD.out.mono ?_
    intro e y hh
    have HF:=hid (G2.out h1 e y (OutsChg.of HC1.out hh))
    obtain ⟨g,c,gs,cs,rfl,_⟩:=hh
    unfold sl at *
    go_wp2
    exact HF.out
end
section
variable (v:PV) (B:Nat) (w:World) (h:v.At w B)
include h
theorem diskArmV (n:Int):Calls Tryz.prog 38 #[.pointer (some ⟨B,3,none⟩),.int .i64 n] w fun e w'=>e=.returned (.tuple #[])∧Chg w w' B v (if v.lost=[] then { v with arm:=max n 0 } else v):=by
  have FV:=hid (failedV v B w h)
  have HV:=hid h
  clear h
  by_cases hl:v.lost=[]
  · rw [hl] at FV
    rw [if_pos hl]
    clear hl
    rcases Int.lt_or_le n 0 with h1 | h1
    · rw [show max n 0=0 from by omega]
      go_enter Tryz.func38,Tryz.ntmps38
      go_wp2_with fail
      refine FV.out.mono ?_
      rintro e X ⟨rfl,hb⟩
      have HB:=hid hb
      have HVX:=hid (HV.out.below hb)
      clear hb FV
      simp only [List.length_nil,Nat.lt_irrefl,decide_false]
      have c7:X.cell? ⟨B,7,none⟩=some (.int .i64 v.arm):=cell_of_heap HVX.out.blk 7
      have f7:X.frozen? ⟨B,7,none⟩=false:=frozen_of_heap HVX.out.blk 7
      have HC:=hid (Chg.of HB.out HV.out (HVX.out.arm 0))
      go_wp2
      go_end0
      exact ⟨rfl,HC.out⟩
    · rw [show max n 0=n from by omega]
      have h1':¬ n < 0:=by omega
      go_enter Tryz.func38,Tryz.ntmps38
      go_wp2_with fail
      refine FV.out.mono ?_
      rintro e X ⟨rfl,hb⟩
      have HB:=hid hb
      have HVX:=hid (HV.out.below hb)
      clear hb FV
      simp only [List.length_nil,Nat.lt_irrefl,decide_false]
      have c7:X.cell? ⟨B,7,none⟩=some (.int .i64 v.arm):=cell_of_heap HVX.out.blk 7
      have f7:X.frozen? ⟨B,7,none⟩=false:=frozen_of_heap HVX.out.blk 7
      have HC:=hid (Chg.of HB.out HV.out (HVX.out.arm n))
      go_wp2
      go_end0
      exact ⟨rfl,HC.out⟩
  · have hp:0 < v.lost.length:=by cases hh:v.lost with
      | nil=>exact absurd hh hl
      | cons _ _=>simp
    rw [decide_eq_true hp] at FV
    rw [if_neg hl]
    clear hl hp
    go_enter Tryz.func38,Tryz.ntmps38
    go_wp2_with fail
    refine FV.out.mono ?_
    rintro e X ⟨rfl,hb⟩
    have HB:=hid hb
    clear hb FV
    go_wp2
    go_end0
    exact ⟨rfl,Chg.same HV.out HB.out⟩
end
theorem turnOf_ge (ls:List Ln) (c:Int):∀ (j i:Nat),i < j→j≤ls.length→(ls.getD i Ln.zero).c=c→(ls.getD i Ln.zero).t≤turnOf (ls.take j) c:=by
  intro j
  induction j with
  | zero=>intro i h;omega
  | succ j ih =>
    intro i hi hj hc
    rw [take_snoc ls j (by omega),turnOf_snoc]
    by_cases e:i=j
    · subst e
      rw [getD_at ls i _ (by omega)] at hc ⊢
      split
      · omega
      · rename_i h
        simp only [not_and,Int.not_lt] at h
        exact h hc
    · have:=ih i (by omega) (by omega) hc
      split
      · omega
      · exact this
theorem sameTurn_one {ls:List Ln} (h:linesOk ls=true) (l:Ln) {i j:Nat} (hij:i < j) (hj:j < ls.length) (hi:sameTurn l (ls.getD i Ln.zero)=true):sameTurn l (ls.getD j Ln.zero)=false:=by
  rw [Bool.eq_false_iff]
  intro h2
  unfold sameTurn at hi h2
  simp only [Bool.and_eq_true,beq_iff_eq] at hi h2
  unfold linesOk linesRise at h
  simp only [Bool.and_eq_true] at h
  have h1:=h.1
  rw [List.all_eq_true] at h1
  have hr:=h1 j (by simpa using hj)
  unfold riseAt at hr
  simp only [Bool.and_eq_true,decide_eq_true_eq] at hr
  have:=turnOf_ge ls (ls.getD j Ln.zero).c j i hij (by omega) (by rw [hi.1,h2.1])
  omega
theorem tellsN_first {m:Mm} (h:linesOk m.ls=true) (l:Ln) {i:Nat} (hi:sameTurn l (m.ls.getD i Ln.zero)=true) (h0:tellsN m l i=[]):∀ k,i < k→k≤m.ls.length→tellsN m l k=[toldO m i]:=by
  intro k
  induction k with
  | zero=>intro h;omega
  | succ k ih =>
    intro hk hl
    rw [tellsN_succ]
    by_cases e:i=k
    · subst e
      rw [h0,if_pos hi];rfl
    · rw [ih (by omega) (by omega),sameTurn_one h l (show i < k by omega) (by omega) hi]
      rfl
section
variable (v:PV) (B:Nat) (w:World) (h:v.At w B)
include h
theorem tellAgainV (hag:v.ag≤v.m.ls.length) (h20:v.m.ls.length≤20) (hok:linesOk v.m.ls=true) (l:Ln):Calls Tryz.prog 122 #[.pointer (some ⟨B,0,none⟩),.agg #[.int .i64 l.c,.int .i64 l.t,.string ⟨l.s.toArray⟩]] w (OutsRet w (tellsN v.m l v.ag)):=by
  have AV:Hid (∀ z,Below w.heap.size w z→Calls Tryz.prog 44 #[.pointer (some ⟨B,0,none⟩)] z fun e w'=>e=.returned (.slice (v.gl.map fun k=>⟨k,0,none⟩) v.ag v.cl)∧Below z.heap.size z w'):=fun z hz=>agreedLines_go B _ _ _ _ _ _ _ _ _ _ _ _ _ _ _ z (h.below hz) hag
  have HV:=hid h
  have HOK:=hid hok
  have HXN:Hid (tellsN v.m l v.ag=[]→∀ y,Below w.heap.size w y→OutsRet w (tellsN v.m l v.ag) (.returned (.slice none 0 0)) y):=fun e y hy=>by rw [e];exact ⟨none,0,_,_,rfl,OwnOuts.none_ _ _,hy⟩
  have HXO:Hid (∀ i,tellsN v.m l v.ag=[toldO v.m i]→∀ X gb cb,Below w.heap.size w X→OwnBytes w X gb cb (toldO v.m i).b→OutsRet w (tellsN v.m l v.ag) (.returned (.slice (some ⟨X.heap.size,0,none⟩) 1 1)) (X.alloc (.cells #[.bool true,.int .i64 (toldO v.m i).tk,.slice (gb.map fun k=>⟨k,0,none⟩) (toldO v.m i).b.length cb] 71))):=fun i e X gb cb h1 h2=>by
    rw [e]
    exact ⟨_,_,_,_,rfl,OwnOuts.one (x:=toldO v.m i) h1 h2,h1.alloc h1.size _⟩
  generalize hQ:OutsRet w (tellsN v.m l v.ag)=Q at *
  clear h hok hQ
  go_enter Tryz.func122,Tryz.ntmps122
  go_wp2_with fail
  refine (AV.out _ ((Below.refl _ _).alloc (Nat.le_refl _) _)).mono ?_
  rintro e X ⟨rfl,hb⟩
  have HB:Hid (Below w.heap.size w X):=((Below.refl _ w).alloc (Nat.le_refl _) _).trans (hb.mono (by simp))
  have HM:Hid (MBox w.heap.size 27 (.int .i64 l.c) (.int .i64 l.t) (.string ⟨l.s.toArray⟩) X):=(hb.block _ (by simp)).trans (heap_alloc_new w _)
  clear hb AV
  go_wp2
  go_loopw [10] (fun ii wr=>∃ k:Nat,k≤v.ag∧ii=.int .i64 k∧Hid (tellsN v.m l k=[])∧Hid (Below X.heap.size X wr)) (fun ii _=>v.ag - (intOf ii).toNat)
  case atStart=>exact ⟨0,Nat.zero_le _,rfl,rfl,Below.refl _ _⟩
  case round =>
    obtain ⟨k,hk,rfl,HT,HBR⟩:=hrel
    by_cases hlt:k < v.ag
    · have b1:(k:Int) < (v.ag:Int):=by omega
      have b0:(0:Int)≤(k:Int):=by omega
      have HBW:=hid (HB.out.trans (HBR.out.mono HB.out.size))
      have HVR:=hid (HV.out.below HBW.out)
      obtain ⟨q,o,eq,l0,l1,l2⟩:=HVR.out.lb k (by omega)
      have hgd:v.m.ls.getD k Ln.zero=v.m.ls[k]:=by rw [List.getD_eq_getElem?_getD,List.getElem?_eq_getElem (by omega)];rfl
      have HMR:=hid ((HBR.out.block _ (heap_lt HM.out)).trans HM.out)
      obtain ⟨m0,m1,m2,fm⟩:=mbox_cells HMR.out
      have hwlt:w.heap.size < wr.heap.size:=heap_lt HMR.out
      have hwne:w.heap.size≠wr.heap.size:=by omega
      have HSC:=tellsN_succ v.m l k
      rw [HT.out] at HSC
      have HFI:=hid (fun (hi:sameTurn l (v.m.ls.getD k Ln.zero)=true)=>tellsN_first HOK.out l hi HT.out v.ag hlt hag)
      have HSC:=hid HSC
      have hst:Hid (sameTurn l (v.m.ls.getD k Ln.zero)=(decide (v.m.ls[k].c=l.c) && decide (v.m.ls[k].t=l.t))):=by show _=_;rw [hgd];rfl
      clear hgd
      rw [eq]
      clear eq
      generalize v.m.ls[k]=ln at *
      have HTO:Hid (∀ z,Below w.heap.size w z→Calls Tryz.prog 162 #[.pointer (some ⟨B,0,none⟩),.int .i64 (k+1:Nat)] z (OutRet z true (toldO v.m k).tk (toldO v.m k).b)):=fun z hz=>toldG v B z (HV.out.below hz) k (by omega) h20
      unfold OutRet at HTO
      have HBA:Hid (∀ o,Below X.heap.size X (wr.alloc o)):=fun o=>HBR.out.alloc HBR.out.size o
      have HBAW:Hid (∀ o,Below w.heap.size w (wr.alloc o)):=fun o=>HB.out.trans ((HBA.out o).mono HB.out.size)
      by_cases e1:ln.c=l.c
      · by_cases e2:ln.t=l.t
        · have HSAME:Hid (sameTurn l (v.m.ls.getD k Ln.zero)=true):=by show _=_;rw [hst.out,decide_eq_true e1,decide_eq_true e2];rfl
          have HE1:=hid e1
          have HE2:=hid e2
          have i1:(ln.c=l.c)↔True:=iff_true_intro e1
          have i2:(ln.t=l.t)↔True:=iff_true_intro e2
          have HXK:=hid (HXO.out k (HFI.out HSAME.out))
          generalize toldO v.m k=tt at *
          go_wp2_with fail
          refine (HTO.out _ (HBAW.out _)).mono ?_
          rintro e Y ⟨gb,cb,rfl,hob,hby⟩
          have HBY:=hid ((HBAW.out _).trans (hby.mono (HBAW.out _).size))
          have HOB:=hid (hob.base (u:=w) (HBAW.out _).size)
          clear hob hby HTO
          unfold sl
          go_wp2
          exact HXK.out Y gb cb HBY.out HOB.out
        · have HSAME:Hid (sameTurn l (v.m.ls.getD k Ln.zero)=false):=by show _=_;rw [hst.out,decide_eq_false e2,Bool.and_false]
          have i1:(ln.c=l.c)↔True:=iff_true_intro e1
          go_wp2
          go_roundw
          case rel =>
            first
            | exact ⟨k+1,by omega,by go_num,by rw [HSC.out,HSAME.out];rfl,HBA.out _⟩
            | ((repeat apply Exists.intro);refine ⟨?_,rfl⟩;exact ⟨k+1,by omega,by go_num,by rw [HSC.out,HSAME.out];rfl,HBA.out _⟩)
          case measure=>simp [intOf];omega
      · have HSAME:Hid (sameTurn l (v.m.ls.getD k Ln.zero)=false):=by show _=_;rw [hst.out,decide_eq_false e1,Bool.false_and]
        go_wp2
        go_roundw
        case rel =>
          first
          | exact ⟨k+1,by omega,by go_num,by rw [HSC.out,HSAME.out];rfl,HBA.out _⟩
          | ((repeat apply Exists.intro);refine ⟨?_,rfl⟩;exact ⟨k+1,by omega,by go_num,by rw [HSC.out,HSAME.out];rfl,HBA.out _⟩)
        case measure=>simp [intOf];omega
    · have hka:k=v.ag:=by omega
      subst hka
      go_wp2
      exact HXN.out HT.out _ (HB.out.trans (HBR.out.mono HB.out.size))
end
end
end Go.Proofs.YtolififimldmlaaGreat
