import Derived.Test.YtolififimldmlaaGreatPart25
set_option linter.unusedVariables false
set_option linter.unusedSimpArgs false
set_option maxRecDepth 100000
set_option maxHeartbeats 16000000
namespace Go.Proofs.YtolififimldmlaaGreat
section
open Go.RowKit
attribute [local go_sem ↓] Go.wp_at_zero Go.wp_at_succ
section
variable (v:PV) (B:Nat) (w:World) (h:v.At w B)
include h
theorem toldV (j:Nat) (hj:j < v.m.ls.length) (h20:v.m.ls.length≤20):Calls Tryz.prog 162 #[.pointer (some ⟨B,0,none⟩),.int .i64 (j+1:Nat)] w (OutRet w true (v.m.ls[j]).c (packS ⟨9,0,v.m.view,(j+1:Nat),0,0,⟨(v.m.ls[j]).c,(v.m.ls[j]).t,[]⟩,[]⟩)):=by
  have LV:Hid (∀ z,Below w.heap.size w z→Calls Tryz.prog 83 #[.pointer (some ⟨B,0,none⟩)] z fun e w'=>e=.returned (sl v.gl v.m.ls.length v.cl)∧Below z.heap.size z w'):=fun z hz=>linesV v B z (h.below hz)
  have VV:Hid (∀ z,Below w.heap.size w z→Calls Tryz.prog 88 #[.pointer (some ⟨B,0,none⟩)] z fun e w'=>e=.returned (.int .i64 v.m.view)∧Below z.heap.size z w'):=fun z hz=>viewV v B z (h.below hz)
  obtain ⟨gg,oo,he,l0,l1,l2⟩:=h.lb j hj
  have L0:=hid l0
  have L1:=hid l1
  have L2:=hid l2
  have hgl:v.gl=some gg∧oo=0:=by
    cases hgl:v.gl with
    | none=>rw [hgl] at he;cases he
    | some k=>rw [hgl] at he;cases he;exact ⟨rfl,rfl⟩
  obtain ⟨hgl,rfl⟩:=hgl
  rw [hgl] at LV
  clear h he l0 l1 l2
  generalize v.m.ls[j]=x at *
  generalize hN:v.m.ls.length=N at *
  obtain ⟨lc,lt,lss⟩:=x
  dsimp only at *
  have TC:Hid (∀ z,Calls Tryz.prog 183 #[.agg #[.int .i64 v.m.view,.int .i64 (j+1:Nat),.int .i64 lc,.int .i64 lt,.string ⟨#[]⟩]] z (OutRet z true lc (packS ⟨9,0,v.m.view,(j+1:Nat),0,0,⟨lc,lt,[]⟩,[]⟩))):=fun z=>toClient_go v.m.view (j+1:Nat) lc lt [] z
  unfold OutRet at TC
  generalize packS ⟨9,0,v.m.view,(j+1:Nat),0,0,⟨lc,lt,[]⟩,[]⟩=pb at *
  have HX:Hid (∀ g cq w',OwnBytes w w' g cq pb→Below w.heap.size w w'→OutRet w true lc pb (.returned (.agg #[.bool true,.int .i64 lc,.slice (g.map fun k=>⟨k,0,none⟩) pb.length cq])) w'):=fun g cq w' h1 h2=>⟨g,cq,rfl,h1,h2⟩
  generalize v.m.view=vw at *
  have wj:IntKind.i64.wrap (((j+1:Nat):Int) - 1)=(j:Int):=by rw [IntWalk.i64_left,IntWalk.wrap64_in _ (by omega)];omega
  have b0:(0:Int)≤(j:Int):=by omega
  have b1:(j:Int) < (N:Int):=by omega
  generalize hJ:((j+1:Nat):Int)=J at *
  go_enter Tryz.func162,Tryz.ntmps162
  go_wp2_with fail
  refine (LV.out _ ((Below.refl _ _).alloc (Nat.le_refl _) _)).mono ?_
  rintro e X1 ⟨rfl,hb1⟩
  rw [World.size_alloc] at hb1
  have HB1:Hid (Below w.heap.size w X1):=((Below.refl _ _).alloc (Nat.le_refl _) _).trans (hb1.mono (by omega))
  have HR1:Hid (X1.heap[w.heap.size]?=some (.cells #[.bool false,.int .i64 0,.slice none 0 0] 71 (0,0))):=by show _=_;rw [hb1.block _ (by omega)];exact heap_alloc_new w _
  clear hb1 LV
  have l0:=(HB1.out.cell (World.block_lt_of_cell? _ _ L0.out)).trans L0.out
  have l1:=(HB1.out.cell (World.block_lt_of_cell? _ _ L1.out)).trans L1.out
  have l2:=(HB1.out.cell (World.block_lt_of_cell? _ _ L2.out)).trans L2.out
  simp only [Nat.zero_add] at l0 l1 l2
  unfold sl
  simp only [Option.map_some]
  go_wp2
  obtain ⟨Y,hY⟩:∃ Y,Y=X1.alloc (.cells #[.int .i64 lc,.int .i64 lt,.string ⟨#[]⟩] 27):=⟨_,rfl⟩
  rw [← hY]
  have hX1:w.heap.size < X1.heap.size:=heap_lt HR1.out
  have HBY:Hid (Below w.heap.size w Y):=by show Below _ _ _;rw [hY];exact HB1.out.alloc HB1.out.size _
  have HT:Hid (Y.heap[X1.heap.size]?=some (.cells #[.int .i64 lc,.int .i64 lt,.string ⟨#[]⟩] 27 (0,0))):=by show _=_;rw [hY];exact heap_alloc_new X1 _
  have HR:Hid (Y.heap[w.heap.size]?=some (.cells #[.bool false,.int .i64 0,.slice none 0 0] 71 (0,0))):=by show _=_;rw [hY];exact alloc_keep1 HR1.out
  clear hY l0 l1 l2
  have hS0:(fun z:World=>z.heap[X1.heap.size]?=some (.cells #[.int .i64 lc,.int .i64 lt,.string ⟨#[]⟩] 27 (0,0))) Y.drew:=HT.out
  refine wp_region_held_drew (S:=fun z:World=>z.heap[X1.heap.size]?=some (.cells #[.int .i64 lc,.int .i64 lt,.string ⟨#[]⟩] 27 (0,0))) (by kernel_rfl) hS0 (fun hS=>?_)
  clear hS0
  refine tH 0 hS ?_
  try simp only [lA,lB,lC,Act.put,lD,lE,lF]
  refine tH 2 hS ?_
  try simp only [lA,lB,lC,Act.put,lD,lE,lF]
  refine tH 3 hS ?_ (hy:=by (intro w hw;have s0:=cell_of_heap hw 0;have s1:=cell_of_heap hw 1;have s2:=cell_of_heap hw 2;simp only [List.getElem?_toArray,List.getElem?_cons_zero,List.getElem?_cons_succ] at s0 s1 s2;clear hw;go_simp;try with_reducible rfl))
  try simp only [lA,lB,lC,Act.put,lD,lE,lF]
  refine wpAnyH_ready (rs:=[1]) (by kernel_rfl) (by simp) ?_
  refine AllReadyH.cons rfl (fun K hK=>?_) AllReadyH.nil
  go_simp
  refine (VV.out _ HBY.out.drew).mono ?_
  rintro e X2 ⟨rfl,hbf⟩
  have hb2:Below Y.heap.size Y X2:=(Below.refl _ Y).drew.trans hbf
  have HT2:=hid ((hb2.block _ (heap_lt HT.out)).trans HT.out)
  have HR2:=hid ((hb2.block _ (heap_lt HR.out)).trans HR.out)
  have HB2:=hid (HBY.out.trans (hb2.mono HBY.out.size))
  clear hbf hb2
  refine hK.out _ _ HT2.out (fun hS=>?_)
  clear hK K
  refine tH 4 hS ?_
  try simp only [lA,lB,lC,Act.put,lD,lE,lF]
  refine wpAnyH_ready (rs:=[5]) (by kernel_rfl) (by simp) ?_
  refine AllReadyH.cons rfl (fun K hK=>?_) AllReadyH.nil
  go_simp
  refine (TC.out _).mono ?_
  rintro e X3 ⟨g,cq,rfl,ho,hbf⟩
  have HT3:=hid ((hbf.block _ (heap_lt HT2.out)).trans HT2.out)
  have HR3:=hid ((hbf.block _ (heap_lt HR2.out)).trans HR2.out)
  have HO:=hid (ho.base (u:=w) HB2.out.size)
  have hg:Hid (g≠some w.heap.size):=fun e=>by have:=ho.new _ e;have:=heap_lt HR2.out;omega
  have HB3:=hid (HB2.out.trans (hbf.mono HB2.out.size))
  clear hbf ho
  refine hK.out _ _ HT3.out (fun hS=>?_)
  clear hK K
  have q0:X3.cell? ⟨w.heap.size,0,none⟩=some (.bool false):=cell_of_heap HR3.out 0
  have q1:X3.cell? ⟨w.heap.size,1,none⟩=some (.int .i64 0):=cell_of_heap HR3.out 1
  have q2:X3.cell? ⟨w.heap.size,2,none⟩=some (.slice none 0 0):=cell_of_heap HR3.out 2
  have fq:∀ j,X3.frozen? ⟨w.heap.size,j,none⟩=false:=fun j=>frozen_of_heap HR3.out j
  unfold sl
  refine wpAnyH_ready (rs:=[6]) (by kernel_rfl) (by simp) ?_
  refine AllReadyH.cons rfl (fun KK hKK=>?_) AllReadyH.nil
  go_simp
  have h3:=set3h HR3.out (.bool true) (.int .i64 lc) (.slice (g.map fun k=>⟨k,0,none⟩) pb.length cq)
  have z0:=cell_of_heap h3 0
  have z1:=cell_of_heap h3 1
  have z2:=cell_of_heap h3 2
  simp only [List.getElem?_toArray,List.getElem?_cons_zero,List.getElem?_cons_succ] at z0 z1 z2
  refine hKK.out _ _ ?_ (fun hS=>?_)
  · exact (Below.heap_setCell _ _ _ _ (by dsimp only;omega)).trans ((Below.heap_setCell _ _ _ _ (by dsimp only;omega)).trans ((Below.heap_setCell _ _ _ _ (by dsimp only;omega)).trans HT3.out))
  clear hKK KK
  refine wpAnyH_done (by kernel_rfl) ?_ _
  clear hS
  go_wp2
  refine bodyPost_ret (v:=.agg #[.bool true,.int .i64 lc,.slice (g.map fun k=>⟨k,0,none⟩) pb.length cq]) ?_ rfl (HX.out g cq _ ?_ ?_)
  · simp [results,Tryz.results162,go_sem,z0,z1,z2]
  · exact ((HO.out.setFar _ 0 _ hg.out).setFar _ 1 _ hg.out).setFar _ 2 _ hg.out
  · exact ((HB3.out.setCell (p:=⟨w.heap.size,0,none⟩) (Nat.le_refl _) _).setCell (p:=⟨w.heap.size,1,none⟩) (Nat.le_refl _) _).setCell (p:=⟨w.heap.size,2,none⟩) (Nat.le_refl _) _
end
end
section
open Go.RowKit
def setAll (w:World) (B:Nat):Nat→List Value→World
  | _,[]=>w
  | o,v :: vs=>setAll (w.setCell ⟨B,o,none⟩ v) B (o+1) vs
theorem setAll_heap' {B:Nat} {e:TypeId} {f:Nat × Nat} (vs:List Value):∀ (w:World) (pre rest:List Value),w.heap[B]?=some (.cells (pre++rest).toArray e f)→rest.length=vs.length→(setAll w B pre.length vs).heap[B]?=some (.cells (pre++vs).toArray e f):=by
  induction vs with
  | nil =>
    intro w pre rest h hl
    have:rest=[]:=List.eq_nil_of_length_eq_zero (by simpa using hl)
    subst this
    exact h
  | cons v vs ih =>
    intro w pre rest h hl
    cases rest with
    | nil=>simp at hl
    | cons r rest =>
      have h1:=heap_setCell h pre.length v
      have h2:(pre++r :: rest).toArray.setIfInBounds pre.length v=((pre++[v])++rest).toArray:=by simp
      rw [h2] at h1
      have:=ih (w.setCell ⟨B,pre.length,none⟩ v) (pre++[v]) rest h1 (by simpa using hl)
      rw [List.length_append,List.length_singleton] at this
      unfold setAll
      rw [this,List.append_assoc];rfl
theorem setAll_heap {w:World} {B:Nat} {cur vs:List Value} {e:TypeId} {f:Nat × Nat} (h:w.heap[B]?=some (.cells cur.toArray e f)) (hl:cur.length=vs.length):(setAll w B 0 vs).heap[B]?=some (.cells vs.toArray e f):=by
  have:=setAll_heap' vs w [] cur h hl
  simpa using this
theorem setAll_touch (B:Nat) (vs:List Value):∀ (w:World) (o:Nat),Touch (fun k=>k=B) w (setAll w B o vs):=by
  induction vs with
  | nil=>intro w o;exact Touch.refl _ _
  | cons v vs ih=>intro w o;exact ((Touch.refl (fun k=>k=B) w).setCell (p:=⟨B,o,none⟩) (fun _=>rfl) v).trans (ih _ _) (fun _ _ e=>e)
theorem setAll_below {w0 w:World} {B:Nat} (vs:List Value) (o:Nat) (hb:Below w0.heap.size w0 w) (hB:w0.heap.size≤B):Below w0.heap.size w0 (setAll w B o vs) :=
  hb.trans ((setAll_touch B vs w o).below hb.size (fun k _ e=>by omega))
end
section
open Go.RowKit
attribute [local go_sem ↓] Go.wp_at_zero Go.wp_at_succ
section
variable (v:PV) (B:Nat) (w:World) (h:v.At w B)
include h
theorem prepareV (j:Nat) (hj:j < v.m.ls.length) (h20:v.m.ls.length≤20):Calls Tryz.prog 125 #[.pointer (some ⟨B,0,none⟩),.int .i64 (j+1:Nat)] w fun e w'=>e=.returned (.agg #[.int .i64 v.me,.int .i64 v.m.view,.int .i64 (j+1:Nat),.int .i64 v.ag,.int .i64 (v.m.ls[j]).c,.int .i64 (v.m.ls[j]).t,.string ⟨(v.m.ls[j]).s.toArray⟩])∧Below w.heap.size w w':=by
  have LV:Hid (∀ z,Below w.heap.size w z→Calls Tryz.prog 83 #[.pointer (some ⟨B,0,none⟩)] z fun e w'=>e=.returned (sl v.gl v.m.ls.length v.cl)∧Below z.heap.size z w'):=fun z hz=>linesV v B z (h.below hz)
  have SV:Hid (∀ z,Below w.heap.size w z→Calls Tryz.prog 164 #[.pointer (some ⟨B,0,none⟩)] z fun e w'=>e=.returned (.agg #[.int .i64 v.me,.int .i64 v.m.view])∧Below z.heap.size z w'):=fun z hz=>stampV v B z (h.below hz)
  have C9:Hid (w.cell? ⟨B,9,none⟩=some (.int .i64 v.ag)):=cell_of_heap h.blk 9
  obtain ⟨gg,oo,he,l0,l1,l2⟩:=h.lb j hj
  have hgl:v.gl=some gg∧oo=0:=by
    cases hgl:v.gl with
    | none=>rw [hgl] at he;cases he
    | some k=>rw [hgl] at he;cases he;exact ⟨rfl,rfl⟩
  obtain ⟨hgl,rfl⟩:=hgl
  rw [hgl] at LV
  simp only [Nat.zero_add] at l0 l1 l2
  have L0:=hid l0
  have L1:=hid l1
  have L2:=hid l2
  clear h he l0 l1 l2
  generalize v.m.ls[j]=x at *
  generalize hN:v.m.ls.length=N at *
  obtain ⟨lc,lt,lss⟩:=x
  dsimp only at *
  generalize v.m.view=vw at *
  generalize v.me=me at *
  generalize v.ag=ag at *
  generalize v.cl=cl at *
  have wj:IntKind.i64.wrap (((j+1:Nat):Int) - 1)=(j:Int):=by rw [IntWalk.i64_left,IntWalk.wrap64_in _ (by omega)];omega
  have b0:(0:Int)≤(j:Int):=by omega
  have b1:(j:Int) < (N:Int):=by omega
  generalize hJ:((j+1:Nat):Int)=J at *
  go_enter Tryz.func125,Tryz.ntmps125
  go_wp2
  generalize hY:w.alloc (.cells #[.int .i64 0,.int .i64 0,.int .i64 0,.int .i64 0,.int .i64 0,.int .i64 0,.string ⟨#[]⟩] 153)=Y
  have HBY:Hid (Below w.heap.size w Y):=by show Below _ _ _;rw [← hY];exact (Below.refl _ _).alloc (Nat.le_refl _) _
  have HR:Hid (Y.heap[w.heap.size]?=some (.cells #[.int .i64 0,.int .i64 0,.int .i64 0,.int .i64 0,.int .i64 0,.int .i64 0,.string ⟨#[]⟩] 153 (0,0))):=by show _=_;rw [← hY];exact heap_alloc_new w _
  clear hY
  have HSB:Hid (∀ z,Below w.heap.size w z→(Below w.heap.size w z∧z.cell? ⟨B,9,none⟩=some (.int .i64 ag)∧z.cell? ⟨gg,j * 3,none⟩=some (.int .i64 lc)∧z.cell? ⟨gg,j * 3+1,none⟩=some (.int .i64 lt)∧z.cell? ⟨gg,j * 3+2,none⟩=some (.string ⟨lss.toArray⟩))):=fun z hz=>⟨hz,(hz.cell (World.block_lt_of_cell? _ _ C9.out)).trans C9.out,(hz.cell (World.block_lt_of_cell? _ _ L0.out)).trans L0.out,(hz.cell (World.block_lt_of_cell? _ _ L1.out)).trans L1.out,(hz.cell (World.block_lt_of_cell? _ _ L2.out)).trans L2.out⟩
  refine wp_region_held_drew (S:=fun z:World=>Below w.heap.size w z∧z.cell? ⟨B,9,none⟩=some (.int .i64 ag)∧z.cell? ⟨gg,j * 3,none⟩=some (.int .i64 lc)∧z.cell? ⟨gg,j * 3+1,none⟩=some (.int .i64 lt)∧z.cell? ⟨gg,j * 3+2,none⟩=some (.string ⟨lss.toArray⟩)) (by kernel_rfl) (HSB.out _ HBY.out.drew) (fun hS=>?_)
  refine tH 0 hS ?_
  try simp only [lA,lB,lC,Act.put,lD,lE,lF]
  refine tH 2 hS ?_
  try simp only [lA,lB,lC,Act.put,lD,lE,lF]
  refine tH 3 hS ?_
  try simp only [lA,lB,lC,Act.put,lD,lE,lF]
  refine tH 4 hS ?_
  try simp only [lA,lB,lC,Act.put,lD,lE,lF]
  refine tH 5 hS ?_
  try simp only [lA,lB,lC,Act.put,lD,lE,lF]
  refine tH 7 hS ?_
  try simp only [lA,lB,lC,Act.put,lD,lE,lF]
  refine tH 9 hS ?_
  try simp only [lA,lB,lC,Act.put,lD,lE,lF]
  refine tH 10 hS ?_
  try simp only [lA,lB,lC,Act.put,lD,lE,lF]
  refine tH 6 hS ?_ (hy:=by (intro w hw;obtain ⟨_,s1,s2,s3,s4⟩:=hw;go_simp;try with_reducible rfl))
  try simp only [lA,lB,lC,Act.put,lD,lE,lF]
  refine wpAnyH_ready (rs:=[1]) (by kernel_rfl) (by simp) ?_
  refine AllReadyH.cons rfl (fun K hK=>?_) AllReadyH.nil
  go_simp
  refine (SV.out _ hS.1).mono ?_
  rintro e X1 ⟨rfl,hbf⟩
  have HB1:=hid (hS.1.trans (hbf.mono hS.1.size))
  have HR1:=hid ((hbf.block _ (heap_lt HR.out)).trans HR.out)
  clear hbf
  refine hK.out _ _ (HSB.out _ HB1.out) (fun hS=>?_)
  clear hK K
  refine wpAnyH_ready (rs:=[8]) (by kernel_rfl) (by simp) ?_
  refine AllReadyH.cons rfl (fun K hK=>?_) AllReadyH.nil
  go_simp
  refine (LV.out _ hS.1).mono ?_
  rintro e X2 ⟨rfl,hbf⟩
  have HB2:=hid (hS.1.trans (hbf.mono hS.1.size))
  have HR2:=hid ((hbf.block _ (heap_lt HR1.out)).trans HR1.out)
  clear hbf
  refine hK.out _ _ (HSB.out _ HB2.out) (fun hS=>?_)
  clear hK K
  unfold sl
  simp only [Option.map_some]
  refine tH 11 hS ?_
  try simp only [lA,lB,lC,Act.put,lD,lE,lF]
  refine tH 12 hS ?_ (hy:=by (intro w hw;obtain ⟨_,s1,s2,s3,s4⟩:=hw;go_simp;try with_reducible rfl))
  try simp only [lA,lB,lC,Act.put,lD,lE,lF]
  refine tH 13 hS ?_
  try simp only [lA,lB,lC,Act.put,lD,lE,lF]
  have q0:X2.cell? ⟨w.heap.size,0,none⟩=some (.int .i64 0):=cell_of_heap HR2.out 0
  have q1:X2.cell? ⟨w.heap.size,1,none⟩=some (.int .i64 0):=cell_of_heap HR2.out 1
  have q2:X2.cell? ⟨w.heap.size,2,none⟩=some (.int .i64 0):=cell_of_heap HR2.out 2
  have q3:X2.cell? ⟨w.heap.size,3,none⟩=some (.int .i64 0):=cell_of_heap HR2.out 3
  have q4:X2.cell? ⟨w.heap.size,4,none⟩=some (.int .i64 0):=cell_of_heap HR2.out 4
  have q5:X2.cell? ⟨w.heap.size,5,none⟩=some (.int .i64 0):=cell_of_heap HR2.out 5
  have q6:X2.cell? ⟨w.heap.size,6,none⟩=some (.string ⟨#[]⟩):=cell_of_heap HR2.out 6
  have fq:∀ j,X2.frozen? ⟨w.heap.size,j,none⟩=false:=fun j=>frozen_of_heap HR2.out j
  refine wpAnyH_ready (rs:=[14]) (by kernel_rfl) (by simp) ?_
  refine AllReadyH.cons rfl (fun KK hKK=>?_) AllReadyH.nil
  go_simp
  have h7:=setAll_heap (w:=X2) (cur:=[.int .i64 0,.int .i64 0,.int .i64 0,.int .i64 0,.int .i64 0,.int .i64 0,.string ⟨#[]⟩]) (vs:=[.int .i64 me,.int .i64 vw,.int .i64 J,.int .i64 ag,.int .i64 lc,.int .i64 lt,.string ⟨lss.toArray⟩]) HR2.out rfl
  have HB3:=hid (setAll_below [.int .i64 me,.int .i64 vw,.int .i64 J,.int .i64 ag,.int .i64 lc,.int .i64 lt,.string ⟨lss.toArray⟩] 0 HB2.out (Nat.le_refl _))
  have z0:=cell_of_heap h7 0
  have z1:=cell_of_heap h7 1
  have z2:=cell_of_heap h7 2
  have z3:=cell_of_heap h7 3
  have z4:=cell_of_heap h7 4
  have z5:=cell_of_heap h7 5
  have z6:=cell_of_heap h7 6
  simp only [List.getElem?_toArray,List.getElem?_cons_zero,List.getElem?_cons_succ] at z0 z1 z2 z3 z4 z5 z6
  change KK _ (setAll X2 w.heap.size 0 [.int .i64 me,.int .i64 vw,.int .i64 J,.int .i64 ag,.int .i64 lc,.int .i64 lt,.string ⟨lss.toArray⟩])
  generalize setAll X2 w.heap.size 0 [.int .i64 me,.int .i64 vw,.int .i64 J,.int .i64 ag,.int .i64 lc,.int .i64 lt,.string ⟨lss.toArray⟩]=X3 at *
  refine hKK.out _ _ (HSB.out _ HB3.out) (fun hS=>?_)
  clear hKK KK hS
  refine wpAnyH_done (by kernel_rfl) ?_ _
  go_wp2
  refine bodyPost_ret (v:=.agg #[.int .i64 me,.int .i64 vw,.int .i64 J,.int .i64 ag,.int .i64 lc,.int .i64 lt,.string ⟨lss.toArray⟩]) ?_ rfl ⟨rfl,HB3.out⟩
  simp [results,Tryz.results125,go_sem,z0,z1,z2,z3,z4,z5,z6]
theorem beginV:Calls Tryz.prog 166 #[.pointer (some ⟨B,0,none⟩)] w fun e w'=>e=.returned (.agg #[.int .i64 v.me,.int .i64 v.m.view,.int .i64 v.ag,sl v.gl v.m.ls.length v.cl])∧Below w.heap.size w w':=by
  have LV:Hid (∀ z,Below w.heap.size w z→Calls Tryz.prog 83 #[.pointer (some ⟨B,0,none⟩)] z fun e w'=>e=.returned (sl v.gl v.m.ls.length v.cl)∧Below z.heap.size z w'):=fun z hz=>linesV v B z (h.below hz)
  have SV:Hid (∀ z,Below w.heap.size w z→Calls Tryz.prog 164 #[.pointer (some ⟨B,0,none⟩)] z fun e w'=>e=.returned (.agg #[.int .i64 v.me,.int .i64 v.m.view])∧Below z.heap.size z w'):=fun z hz=>stampV v B z (h.below hz)
  have C9:Hid (w.cell? ⟨B,9,none⟩=some (.int .i64 v.ag)):=cell_of_heap h.blk 9
  clear h
  generalize v.m.ls.length=N at *
  generalize v.m.view=vw at *
  generalize v.me=me at *
  generalize v.ag=ag at *
  generalize v.cl=cl at *
  generalize v.gl=gl at *
  unfold sl at *
  go_enter Tryz.func166,Tryz.ntmps166
  go_wp2
  generalize hY:w.alloc (.cells #[.int .i64 0,.int .i64 0,.int .i64 0,.slice none 0 0] 158)=Y
  have HBY:Hid (Below w.heap.size w Y):=by show Below _ _ _;rw [← hY];exact (Below.refl _ _).alloc (Nat.le_refl _) _
  have HR:Hid (Y.heap[w.heap.size]?=some (.cells #[.int .i64 0,.int .i64 0,.int .i64 0,.slice none 0 0] 158 (0,0))):=by show _=_;rw [← hY];exact heap_alloc_new w _
  clear hY
  have HSB:Hid (∀ z,Below w.heap.size w z→(Below w.heap.size w z∧z.cell? ⟨B,9,none⟩=some (.int .i64 ag))):=fun z hz=>⟨hz,(hz.cell (World.block_lt_of_cell? _ _ C9.out)).trans C9.out⟩
  refine wp_region_held_drew (S:=fun z:World=>Below w.heap.size w z∧z.cell? ⟨B,9,none⟩=some (.int .i64 ag)) (by kernel_rfl) (HSB.out _ HBY.out.drew) (fun hS=>?_)
  refine tH 0 hS ?_
  try simp only [lA,lB,lC,Act.put,lD,lE,lF]
  refine tH 2 hS ?_
  try simp only [lA,lB,lC,Act.put,lD,lE,lF]
  refine tH 3 hS ?_
  try simp only [lA,lB,lC,Act.put,lD,lE,lF]
  refine tH 4 hS ?_
  try simp only [lA,lB,lC,Act.put,lD,lE,lF]
  refine tH 6 hS ?_
  try simp only [lA,lB,lC,Act.put,lD,lE,lF]
  refine tH 5 hS ?_ (hy:=by (intro w hw;obtain ⟨_,s1⟩:=hw;go_simp;try with_reducible rfl))
  try simp only [lA,lB,lC,Act.put,lD,lE,lF]
  refine wpAnyH_ready (rs:=[1]) (by kernel_rfl) (by simp) ?_
  refine AllReadyH.cons rfl (fun K hK=>?_) AllReadyH.nil
  go_simp
  refine (SV.out _ hS.1).mono ?_
  rintro e X1 ⟨rfl,hbf⟩
  have HB1:=hid (hS.1.trans (hbf.mono hS.1.size))
  have HR1:=hid ((hbf.block _ (heap_lt HR.out)).trans HR.out)
  clear hbf
  refine hK.out _ _ (HSB.out _ HB1.out) (fun hS=>?_)
  clear hK K
  refine wpAnyH_ready (rs:=[7]) (by kernel_rfl) (by simp) ?_
  refine AllReadyH.cons rfl (fun K hK=>?_) AllReadyH.nil
  go_simp
  refine (LV.out _ hS.1).mono ?_
  rintro e X2 ⟨rfl,hbf⟩
  have HB2:=hid (hS.1.trans (hbf.mono hS.1.size))
  have HR2:=hid ((hbf.block _ (heap_lt HR1.out)).trans HR1.out)
  clear hbf
  refine hK.out _ _ (HSB.out _ HB2.out) (fun hS=>?_)
  clear hK K
  refine tH 8 hS ?_
  try simp only [lA,lB,lC,Act.put,lD,lE,lF]
  have q0:X2.cell? ⟨w.heap.size,0,none⟩=some (.int .i64 0):=cell_of_heap HR2.out 0
  have q1:X2.cell? ⟨w.heap.size,1,none⟩=some (.int .i64 0):=cell_of_heap HR2.out 1
  have q2:X2.cell? ⟨w.heap.size,2,none⟩=some (.int .i64 0):=cell_of_heap HR2.out 2
  have q3:X2.cell? ⟨w.heap.size,3,none⟩=some (.slice none 0 0):=cell_of_heap HR2.out 3
  have fq:∀ j,X2.frozen? ⟨w.heap.size,j,none⟩=false:=fun j=>frozen_of_heap HR2.out j
  refine wpAnyH_ready (rs:=[9]) (by kernel_rfl) (by simp) ?_
  refine AllReadyH.cons rfl (fun KK hKK=>?_) AllReadyH.nil
  go_simp
  have h7:=setAll_heap (w:=X2) (cur:=[.int .i64 0,.int .i64 0,.int .i64 0,.slice none 0 0]) (vs:=[.int .i64 me,.int .i64 vw,.int .i64 ag,.slice (gl.map fun k=>⟨k,0,none⟩) N cl]) HR2.out rfl
  have HB3:=hid (setAll_below [.int .i64 me,.int .i64 vw,.int .i64 ag,.slice (gl.map fun k=>⟨k,0,none⟩) N cl] 0 HB2.out (Nat.le_refl _))
  have z0:=cell_of_heap h7 0
  have z1:=cell_of_heap h7 1
  have z2:=cell_of_heap h7 2
  have z3:=cell_of_heap h7 3
  simp only [List.getElem?_toArray,List.getElem?_cons_zero,List.getElem?_cons_succ] at z0 z1 z2 z3
  change KK _ (setAll X2 w.heap.size 0 [.int .i64 me,.int .i64 vw,.int .i64 ag,.slice (gl.map fun k=>⟨k,0,none⟩) N cl])
  generalize setAll X2 w.heap.size 0 [.int .i64 me,.int .i64 vw,.int .i64 ag,.slice (gl.map fun k=>⟨k,0,none⟩) N cl]=X3 at *
  refine hKK.out _ _ (HSB.out _ HB3.out) (fun hS=>?_)
  clear hKK KK hS
  refine wpAnyH_done (by kernel_rfl) ?_ _
  go_wp2
  refine bodyPost_ret (v:=.agg #[.int .i64 me,.int .i64 vw,.int .i64 ag,.slice (gl.map fun k=>⟨k,0,none⟩) N cl]) ?_ rfl ⟨rfl,HB3.out⟩
  simp [results,Tryz.results166,go_sem,z0,z1,z2,z3]
end
theorem Tryz.info3:(Tryz.prog.info? 3).map (fun i=>(i.zero,i.size,i.bytes))=some (some (.int .i64 0),1,8):=by kernel_rfl
structure OwnInts (w w':World) (g:Option Nat) (c:Nat) (l:List Int):Prop where
  at_:∀ j (h:j < l.length),∃ k,g=some k∧w'.cell? ⟨k,j,none⟩=some (.int .i64 l[j])
  own:OwnRow w' 3 1 g l.length c
  new:∀ k,g=some k→w.heap.size≤k
theorem OwnInts.below {w x y:World} {g:Option Nat} {c:Nat} {l:List Int} (h:OwnInts w x g c l) (hb:Below x.heap.size x y):OwnInts w y g c l :=
  ⟨fun j hj=>by obtain ⟨k,e,hc⟩:=h.at_ j hj;exact ⟨k,e,(hb.cell (World.block_lt_of_cell? _ _ hc)).trans hc⟩,h.own.touch (T:=fun _=>False) (Touch.of_belowAll hb _) (fun _ _ e=>e),h.new⟩
theorem OwnInts.none_ (w w':World):OwnInts w w' none 0 []:=⟨fun j hj=>absurd hj (by simp),.inl ⟨rfl,rfl,rfl⟩,fun k e=>by cases e⟩
theorem OwnInts.app {w X w2:World} {g:Option Nat} {c k g' c':Nat} {l:List Int} {x:Int} {o:Obj} (h:OwnInts w X g c l) (hb:Below w.heap.size w X) (hk:l.length=k) (P:AppPost (X.alloc o) w2 3 1 g k 1 [.int .i64 x] g' c'):OwnInts w w2 (some g') c' (l++[x])∧Below w.heap.size w w2:=by
  subst hk
  have s0:=hb.size
  have bA:Below w.heap.size w (X.alloc o):=hb.alloc s0 _
  refine ⟨⟨fun j hj=>⟨g',rfl,?_⟩,by rw [List.length_append];exact P.own,fun j e=>?_⟩,bA.trans (P.touch.below (by rw [World.size_alloc];omega) (fun j _ e=>h.new j e))⟩
  · rcases Nat.lt_or_ge j l.length with hlt | hge
    · obtain ⟨k,e,hc⟩:=h.at_ j hlt
      rw [List.getElem_append_left hlt,P.old j (by omega) k e,World.cell?_alloc_past _ _ _ (World.block_lt_of_cell? _ _ hc)];exact hc
    · rw [List.length_append,List.length_singleton] at hj
      have:=P.new 0 (by omega)
      have ej:j=l.length:=by omega
      subst ej
      simpa using this
  · have e:=Option.some.inj e
    subst e
    rcases P.lies with q | q
    · exact h.new _ q
    · rw [World.size_alloc] at q;omega
def othersL (me:Int):Nat→List Int
  | 0=>[]
  | n+1=>othersL me n++(if (n:Int)=me then [] else [(n:Int)])
theorem othersL_len (me:Int):∀ n,(othersL me n).length≤n:=by
  intro n
  induction n with
  | zero=>simp [othersL]
  | succ n ih =>
    unfold othersL
    rw [List.length_append]
    split <;> simp <;> omega
theorem othersL_mem {me:Int}:∀ {n:Nat} {x:Int},x ∈ othersL me n→0≤x∧x < n∧x≠me:=by
  intro n
  induction n with
  | zero=>intro x h;cases h
  | succ n ih =>
    intro x h
    unfold othersL at h
    rcases List.mem_append.1 h with h | h
    · have:=ih h;omega
    · split at h
      · cases h
      · have:x=n:=by simpa using h
        omega
section
variable (v:PV) (B:Nat) (w:World) (h:v.At w B)
include h
theorem othersV (n:Nat) (hk:v.kp=n) (hn:n≤5):Calls Tryz.prog 134 #[.pointer (some ⟨B,0,none⟩)] w fun e w'=>∃ g c,e=.returned (sl g (othersL v.me n).length c)∧OwnInts w w' g c (othersL v.me n)∧Below w.heap.size w w':=by
  have c0:w.cell? ⟨B,0,none⟩=some (.int .i64 n):=by rw [← hk];exact cell_of_heap h.blk 0
  have IO:Hid (∀ z (x:Int),Below w.heap.size w z→0≤x→x < n→Calls Tryz.prog 80 #[.pointer (some ⟨B,0,none⟩),.int .i64 x] z fun e w'=>e=.returned (.bool (x != v.me))∧Below z.heap.size z w'):=fun z x hz h1 h2=>by
    have:=isOtherV v B z (h.below hz) x
    rw [hk,decide_eq_true h1,decide_eq_true h2,Bool.true_and,Bool.true_and] at this
    exact this
  obtain ⟨ii,hii,hii0,hii1,hii2⟩:=info_parts Tryz.info3
  clear h hk
  generalize v.me=me at *
  go_enter Tryz.func134,Tryz.ntmps134
  go_wp2
  go_loopw [3,10] (fun r i wr=>∃ (k:Nat) (g:Option Nat) (c m:Nat),k≤n∧i=.int .i64 k∧r=.slice (g.map fun q=>⟨q,0,none⟩) m c∧(othersL me k).length=m∧Hid (OwnInts w wr g c (othersL me k))∧Hid (Below w.heap.size w wr)) (fun _ i _=>n - (intOf i).toNat)
  case atStart=>exact ⟨0,none,0,0,Nat.zero_le _,rfl,rfl,rfl,OwnInts.none_ _ _,Below.refl _ _⟩
  case round =>
    obtain ⟨k,g,c,m,hk,rfl,rfl,hm,HO,HB⟩:=hrel
    have hml:=othersL_len me k
    by_cases hlt:k < n
    · have b1:(k:Int) < (n:Int):=by omega
      by_cases hme:(k:Int)=me
      · have hbe:((k:Int) != me)=false:=by simp [hme]
        have HME:=hid hme
        clear hme
        have HI:=hid (IO.out wr k HB.out (by omega) b1)
        rw [hbe] at HI
        go_wp2_with fail
        refine HI.out.mono ?_
        rintro e x1 ⟨rfl,hb1⟩
        have HB1:=hid (HB.out.trans (hb1.mono HB.out.size))
        have HO1:=hid (HO.out.below hb1)
        clear hb1
        go_wp2
        go_roundw
        case rel=>exact ⟨k+1,g,c,m,by omega,by go_num,rfl,by unfold othersL;rw [if_pos HME.out,List.append_nil];exact hm,by unfold othersL;rw [if_pos HME.out,List.append_nil];exact HO1,HB1⟩
        case measure=>simp [intOf];omega
      · have hbe:((k:Int) != me)=true:=by simp [hme]
        have HI:=hid (IO.out wr k HB.out (by omega) b1)
        rw [hbe] at HI
        go_wp2_with fail
        refine HI.out.mono ?_
        rintro e x1 ⟨rfl,hb1⟩
        have HB1:=hid (HB.out.trans (hb1.mono HB.out.size))
        have HO1:=hid (HO.out.below hb1)
        have HOW:Hid (OwnRow (x1.alloc (.cells #[.int .i64 k] 3)) 3 1 g m c):=by have:=HO1.out.own.alloc (.cells #[.int .i64 k] 3);rw [hm] at this;exact this
        clear hb1
        go_wp2_with (at_builtin;refine wpList_app _ rfl (.tmp 16) (.tmp 18) 221 rfl 3 ii (.int .i64 0) 1 8 Tryz.underlying221 hii hii0 hii1 hii2 rfl g m c (by rfl) HOW.out ⟨x1.heap.size,0,none⟩ 1 1 [.int .i64 k] rfl rfl ?c1 ?c2 (by omega) (by omega) (by omega) ?_)
        case c1=>exact World.news_of_block (heap_alloc_new x1 _)
        case c2=>intro u hu;simp at hu;subst hu;rfl
        intro g2 c2 w3 Q
        have HA:=hid (HO1.out.app HB1.out hm Q)
        clear Q
        go_wp2
        go_roundw
        case rel=>exact ⟨k+1,some g2,c2,m+1,by omega,by go_num,rfl,by unfold othersL;rw [if_neg hme,List.length_append,hm];rfl,by unfold othersL;rw [if_neg hme];exact HA.out.1,HA.out.2⟩
        case measure=>simp [intOf];omega
    · have hkn:k=n:=by omega
      subst hkn
      subst hm
      go_wp2
      go_ret
      exact ⟨g,c,rfl,HO.out,HB.out⟩
end
end
end Go.Proofs.YtolififimldmlaaGreat
