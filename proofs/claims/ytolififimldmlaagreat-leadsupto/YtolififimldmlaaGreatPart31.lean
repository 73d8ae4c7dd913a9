import Derived.Test.YtolififimldmlaaGreatPart28
import Derived.Test.YtolififimldmlaaGreatPart27
import Derived.Test.YtolififimldmlaaGreatPart13
set_option linter.unusedVariables false
set_option linter.unusedSimpArgs false
set_option maxRecDepth 100000
set_option maxHeartbeats 16000000
namespace Go.Proofs.YtolififimldmlaaGreat
section
open Go.RowKit
attribute [local go_sem ↓] Go.wp_at_zero Go.wp_at_succ
section
variable (v:RV) (B:Nat) (w:World) (h:v.At w B)
include h
theorem refTell (p:Nat) (h1:p < v.m.ls.length) (h20:v.m.ls.length≤1000) (ln:Ln) (hln:v.m.ls[p]=ln) (ho:v.os.length≤1000) (b:List UInt8) (hb:packS ⟨9,0,v.m.view,(p+1:Nat),0,0,⟨ln.c,ln.t,[]⟩,[]⟩=b) :
    Calls Tryz.prog 150 #[.pointer (some ⟨B,0,none⟩),.int .i64 (p+1:Nat)] w (SentRet w B v ⟨true,ln.c,b⟩):=by
  obtain ⟨io,hio,hio0,hio1,hio2⟩:=info_parts Tryz.info190
  have HP:Hid (∀ z,Calls Tryz.prog 50 #[.agg #[.int .i64 9,.int .i64 0,.int .i64 v.m.view,.int .i64 ((p:Int)+1),.int .i64 0,.int .i64 0,.int .i64 ln.c,.int .i64 ln.t,.string ⟨#[]⟩,.slice none 0 0]] z fun e w'=>∃ er,e=.returned (.tuple #[.string ⟨b.toArray⟩,.int .i64 er])∧Below z.heap.size z w'):=fun z=>by
    have:=refPack_any ⟨9,0,v.m.view,(p+1:Nat),0,0,⟨ln.c,ln.t,[]⟩,[]⟩ none 0 z (fun j hj=>absurd hj (Nat.not_lt_zero _)) (Nat.zero_le _) (Nat.le_refl _)
    rw [hb] at this
    exact this.mono (fun e w' hh=>⟨_,hh.1,hh.2⟩)
  have hlt:=h.lt
  obtain ⟨q,o,eq,l0,l1,l2⟩:=h.ls p h1
  have c9:w.cell? ⟨B,9,none⟩=some (.slice (some ⟨q,o,none⟩) v.m.ls.length v.c):=by rw [← eq];exact cell_of_heap h.blk 9
  rw [hln] at l0 l1 l2
  have HV:=hid h
  have HX:Hid (∀ y g c,RChg w y B v (v.push ⟨true,ln.c,b⟩ g c)→SentRet w B v ⟨true,ln.c,b⟩ (.returned (.tuple #[])) y):=fun y g c hh=>⟨rfl,g,c,hh⟩
  generalize SentRet w B v ⟨true,ln.c,b⟩=Q at *
  have w1:IntKind.i64.wrap (p:Int)=(p:Int):=by rw [IntWalk.i64_left,IntWalk.wrap64_in _ (by omega)]
  have b0:(0:Int)≤(p:Int):=by omega
  have b1:(p:Int) < (v.m.ls.length:Int):=by omega
  clear h hb hln eq
  go_enter Tryz.func150,Tryz.ntmps150
  go_wp2
  have HN:=hid (heap_alloc_new w (.cells #[.int .i64 ln.c,.int .i64 ln.t,.string ⟨ln.s.toArray⟩] 27))
  have HB:=hid ((Below.refl _ w).alloc (Nat.le_refl _) (.cells #[.int .i64 ln.c,.int .i64 ln.t,.string ⟨ln.s.toArray⟩] 27))
  have HA:=hid (HV.out.below HB.out)
  have hs1:w.heap.size < (w.alloc (.cells #[.int .i64 ln.c,.int .i64 ln.t,.string ⟨ln.s.toArray⟩] 27)).heap.size:=heap_lt HN.out
  generalize w.alloc (.cells #[.int .i64 ln.c,.int .i64 ln.t,.string ⟨ln.s.toArray⟩] 27)=X at *
  clear l0 l1 l2 c9 w1 b0 b1
  have Q7:Hid (X.cell? ⟨B,7,none⟩=some (.int .i64 v.m.view)):=cell_of_heap HA.out.blk 7
  have Q0:Hid (X.cell? ⟨w.heap.size,0,none⟩=some (.int .i64 ln.c)):=cell_of_heap HN.out 0
  have Q1:Hid (X.cell? ⟨w.heap.size,1,none⟩=some (.int .i64 ln.t)):=cell_of_heap HN.out 1
  have hS0:(fun z:World=>Below X.heap.size X z∧z.cell? ⟨B,7,none⟩=some (.int .i64 v.m.view)∧z.cell? ⟨w.heap.size,0,none⟩=some (.int .i64 ln.c)∧z.cell? ⟨w.heap.size,1,none⟩=some (.int .i64 ln.t)) X.drew:=⟨(Below.refl _ _).drew,Q7.out,Q0.out,Q1.out⟩
  refine wp_region_held_drew (S:=fun z:World=>Below X.heap.size X z∧z.cell? ⟨B,7,none⟩=some (.int .i64 v.m.view)∧z.cell? ⟨w.heap.size,0,none⟩=some (.int .i64 ln.c)∧z.cell? ⟨w.heap.size,1,none⟩=some (.int .i64 ln.t)) (by kernel_rfl) hS0 (fun hS=>?_)
  clear hS0
  refine tH 0 hS ?_
  try simp only [lA,lB,lC,Act.put,lD,lE,lF]
  refine tH 1 hS ?_
  try simp only [lA,lB,lC,Act.put,lD,lE,lF]
  refine tH 2 hS ?_
  try simp only [lA,lB,lC,Act.put,lD,lE,lF]
  refine tH 3 hS ?_
  try simp only [lA,lB,lC,Act.put,lD,lE,lF]
  refine tH 5 hS ?_
  try simp only [lA,lB,lC,Act.put,lD,lE,lF]
  refine tH 6 hS ?_
  try simp only [lA,lB,lC,Act.put,lD,lE,lF]
  refine tH 8 hS ?_
  try simp only [lA,lB,lC,Act.put,lD,lE,lF]
  refine tH 4 hS ?_ (hy:=by (intro w hw;obtain ⟨_,s0,s1,s2⟩:=hw;go_simp;try with_reducible rfl))
  try simp only [lA,lB,lC,Act.put,lD,lE,lF]
  refine tH 7 hS ?_ (hy:=by (intro w hw;obtain ⟨_,s0,s1,s2⟩:=hw;go_simp;try with_reducible rfl))
  try simp only [lA,lB,lC,Act.put,lD,lE,lF]
  refine tH 9 hS ?_ (hy:=by (intro w hw;obtain ⟨_,s0,s1,s2⟩:=hw;go_simp;try with_reducible rfl))
  try simp only [lA,lB,lC,Act.put,lD,lE,lF]
  refine tH 10 hS ?_
  try simp only [lA,lB,lC,Act.put,lD,lE,lF]
  refine tH 11 hS ?_
  try simp only [lA,lB,lC,Act.put,lD,lE,lF]
  refine wpAnyH_ready (rs:=[12]) (by kernel_rfl) (by simp) ?_
  refine AllReadyH.cons rfl (fun K hK=>?_) AllReadyH.nil
  go_simp
  refine (HP.out _).mono ?_
  rintro e X2 ⟨er,rfl,hb2⟩
  have hb12:=hS.1.trans (hb2.mono hS.1.size)
  refine hK.out _ _ ⟨hb12,(Below.cell hb12 (World.block_lt_of_cell? _ _ Q7.out)).trans Q7.out,(Below.cell hb12 (World.block_lt_of_cell? _ _ Q0.out)).trans Q0.out,(Below.cell hb12 (World.block_lt_of_cell? _ _ Q1.out)).trans Q1.out⟩ (fun hS=>?_)
  clear hK K hb12 hb2
  refine tH 13 hS ?_
  try simp only [lA,lB,lC,Act.put,lD,lE,lF]
  refine tH 14 hS ?_
  try simp only [lA,lB,lC,Act.put,lD,lE,lF]
  refine tH 16 hS ?_
  try simp only [lA,lB,lC,Act.put,lD,lE,lF]
  refine tH 15 hS ?_
  try simp only [lA,lB,lC,Act.put,lD,lE,lF]
  refine tH 17 hS ?_
  try simp only [lA,lB,lC,Act.put,lD,lE,lF]
  refine wpAnyH_done (by kernel_rfl) ?_ _
  have HBX:=hid (HB.out.trans (hS.1.mono HB.out.size))
  have y0':=hS.2.2.1
  clear hS HN HB HA Q7 Q0 Q1 HP
  go_wp2
  refine wp_region_any (by kernel_rfl) ?_
  try (change wpAny _ _ _ _ _ _ _ (World.drew _))
  have HBY:Hid (Below w.heap.size w X2.drew):=HBX.out.drew
  have y0:X2.drew.cell? ⟨w.heap.size,0,none⟩=some (.int .i64 ln.c):=y0'
  clear HBX y0'
  generalize X2.drew=Y at *
  have HA2:=hid (HV.out.below HBY.out)
  have HB02:=hid (HBY.out.alloc HBY.out.size (.cells #[.bool true,.int .i64 ln.c,.string ⟨b.toArray⟩] 190))
  have c48:Y.cell? ⟨B,48,none⟩=some (.slice (v.sg.map fun k=>⟨k,0,none⟩) v.os.length v.sc):=cell_of_heap HA2.out.blk 48
  have HA3:=hid (HA2.out.below ((Below.refl _ Y).alloc (Nat.le_refl _) (.cells #[.bool true,.int .i64 ln.c,.string ⟨b.toArray⟩] 190)))
  generalize hos:v.os.length=n at *
  have HOS:=hid hos
  have HOW:Hid (OwnRow (Y.alloc (.cells #[.bool true,.int .i64 ln.c,.string ⟨b.toArray⟩] 190)) 190 3 v.sg n v.sc):=by show OwnRow _ _ _ _ _ _;rw [← hos];exact HA3.out.so.own
  have HNE:Hid (v.sg≠some B):=HA3.out.sK
  have c48a:(Y.alloc (.cells #[.bool true,.int .i64 ln.c,.string ⟨b.toArray⟩] 190)).cell? ⟨B,48,none⟩=some (.slice (v.sg.map fun k=>⟨k,0,none⟩) n v.sc):=cell_alloc_keep c48 _
  clear hos HA2 HBY
  refine tA 0 ?_
  try simp only [lA,lB,lC,Act.put,lD,lE,lF]
  refine tA 1 ?_
  try simp only [lA,lB,lC,Act.put,lD,lE,lF]
  refine tA 2 ?_
  try simp only [lA,lB,lC,Act.put,lD,lE,lF]
  refine tA 3 ?_
  try simp only [lA,lB,lC,Act.put,lD,lE,lF]
  refine tA 5 ?_
  try simp only [lA,lB,lC,Act.put,lD,lE,lF]
  refine tA 7 ?_
  try simp only [lA,lB,lC,Act.put,lD,lE,lF]
  refine wpAny_ready (rs:=[4,6]) (by kernel_rfl) (by simp) ?_
  refine AllReady.cons rfl (fun KK hKK=>?_) (AllReady.cons rfl (fun KK hKK=>?_) AllReady.nil)
  · go_simp
    refine hKK _ _ ?_
    clear hKK KK
    refine wpAny_ready (rs:=[6]) (by kernel_rfl) (by simp) ?_
    refine AllReady.cons rfl (fun K hK=>?_) AllReady.nil
    go_simp
    refine hK _ _ ?_
    clear hK K
    refine tA 8 ?_
    try simp only [lA,lB,lC,Act.put,lD,lE,lF]
    refine wpAny_ready (rs:=[9]) (by kernel_rfl) (by simp) ?_
    refine AllReady.cons rfl (fun K hK=>?_) AllReady.nil
    go_simp
    refine hK _ _ ?_
    clear hK K
    refine wpAny_ready (rs:=[10]) (by kernel_rfl) (by simp) ?_
    refine AllReady.cons rfl (fun KK hKK=>?_) AllReady.nil
    refine step_app _ rfl (.tmp 36) (.tmp 41) 130 rfl 190 io (.agg #[.bool false,.int .i64 0,.string ⟨#[]⟩]) 3 32 Tryz.underlying130 hio hio0 hio1 hio2 rfl v.sg n v.sc (by rfl) HOW.out ⟨Y.heap.size,0,none⟩ 1 1 [.bool true,.int .i64 ln.c,.string ⟨b.toArray⟩] rfl rfl ?c1 ?c2 (by omega) (by omega) (by omega) ?_
    case c1=>exact World.news_of_block (heap_alloc_new Y _)
    case c2=>intro u hu;simp at hu;rcases hu with rfl | rfl | rfl <;> rfl
    intro g c w3 Q
    have HPU:=hid (HA3.out.push (x:=⟨true,ln.c,b⟩) HOS.out Q)
    have m48:w3.cell? ⟨B,48,none⟩=some (.slice (v.sg.map fun k=>⟨k,0,none⟩) n v.sc):=Q.touch.cell c48a HNE.out
    have fm48:w3.frozen? ⟨B,48,none⟩=false:=frozen_of_heap (Q.touch.heapAt HA3.out.blk HNE.out) 48
    clear Q c48 c48a y0
    refine hKK _ _ ?_
    clear hKK KK
    simp only [Act.put,List.setIfInBounds_toArray,List.set_cons_zero,List.set_cons_succ]
    refine tA 11 ?_
    try simp only [lA,lB,lC,Act.put,lD,lE,lF]
    refine tA 12 ?_
    try simp only [lA,lB,lC,Act.put,lD,lE,lF]
    refine wpAny_ready (rs:=[13]) (by kernel_rfl) (by simp) ?_
    refine AllReady.cons rfl (fun K hK=>?_) AllReady.nil
    go_simp
    refine hK _ _ ?_
    clear hK K
    refine wpAny_done (by kernel_rfl) ?_ _
    go_wp2
    go_end0
    exact HX.out _ g c (RChg.of HB02.out HV.out HPU.out)
  · go_simp
    refine hKK _ _ ?_
    clear hKK KK
    refine tA 8 ?_
    try simp only [lA,lB,lC,Act.put,lD,lE,lF]
    refine wpAny_ready (rs:=[4,9]) (by kernel_rfl) (by simp) ?_
    refine AllReady.cons rfl (fun KK hKK=>?_) (AllReady.cons rfl (fun KK hKK=>?_) AllReady.nil)
    · go_simp
      refine hKK _ _ ?_
      clear hKK KK
      refine wpAny_ready (rs:=[9]) (by kernel_rfl) (by simp) ?_
      refine AllReady.cons rfl (fun K hK=>?_) AllReady.nil
      go_simp
      refine hK _ _ ?_
      clear hK K
      refine wpAny_ready (rs:=[10]) (by kernel_rfl) (by simp) ?_
      refine AllReady.cons rfl (fun KK hKK=>?_) AllReady.nil
      refine step_app _ rfl (.tmp 36) (.tmp 41) 130 rfl 190 io (.agg #[.bool false,.int .i64 0,.string ⟨#[]⟩]) 3 32 Tryz.underlying130 hio hio0 hio1 hio2 rfl v.sg n v.sc (by rfl) HOW.out ⟨Y.heap.size,0,none⟩ 1 1 [.bool true,.int .i64 ln.c,.string ⟨b.toArray⟩] rfl rfl ?c1 ?c2 (by omega) (by omega) (by omega) ?_
      case c1=>exact World.news_of_block (heap_alloc_new Y _)
      case c2=>intro u hu;simp at hu;rcases hu with rfl | rfl | rfl <;> rfl
      intro g c w3 Q
      have HPU:=hid (HA3.out.push (x:=⟨true,ln.c,b⟩) HOS.out Q)
      have m48:w3.cell? ⟨B,48,none⟩=some (.slice (v.sg.map fun k=>⟨k,0,none⟩) n v.sc):=Q.touch.cell c48a HNE.out
      have fm48:w3.frozen? ⟨B,48,none⟩=false:=frozen_of_heap (Q.touch.heapAt HA3.out.blk HNE.out) 48
      clear Q c48 c48a y0
      refine hKK _ _ ?_
      clear hKK KK
      simp only [Act.put,List.setIfInBounds_toArray,List.set_cons_zero,List.set_cons_succ]
      refine tA 11 ?_
      try simp only [lA,lB,lC,Act.put,lD,lE,lF]
      refine tA 12 ?_
      try simp only [lA,lB,lC,Act.put,lD,lE,lF]
      refine wpAny_ready (rs:=[13]) (by kernel_rfl) (by simp) ?_
      refine AllReady.cons rfl (fun K hK=>?_) AllReady.nil
      go_simp
      refine hK _ _ ?_
      clear hK K
      refine wpAny_done (by kernel_rfl) ?_ _
      go_wp2
      go_end0
      exact HX.out _ g c (RChg.of HB02.out HV.out HPU.out)
    · go_simp
      refine hKK _ _ ?_
      clear hKK KK
      refine wpAny_ready (rs:=[4]) (by kernel_rfl) (by simp) ?_
      refine AllReady.cons rfl (fun K hK=>?_) AllReady.nil
      go_simp
      refine hK _ _ ?_
      clear hK K
      refine wpAny_ready (rs:=[10]) (by kernel_rfl) (by simp) ?_
      refine AllReady.cons rfl (fun KK hKK=>?_) AllReady.nil
      refine step_app _ rfl (.tmp 36) (.tmp 41) 130 rfl 190 io (.agg #[.bool false,.int .i64 0,.string ⟨#[]⟩]) 3 32 Tryz.underlying130 hio hio0 hio1 hio2 rfl v.sg n v.sc (by rfl) HOW.out ⟨Y.heap.size,0,none⟩ 1 1 [.bool true,.int .i64 ln.c,.string ⟨b.toArray⟩] rfl rfl ?c1 ?c2 (by omega) (by omega) (by omega) ?_
      case c1=>exact World.news_of_block (heap_alloc_new Y _)
      case c2=>intro u hu;simp at hu;rcases hu with rfl | rfl | rfl <;> rfl
      intro g c w3 Q
      have HPU:=hid (HA3.out.push (x:=⟨true,ln.c,b⟩) HOS.out Q)
      have m48:w3.cell? ⟨B,48,none⟩=some (.slice (v.sg.map fun k=>⟨k,0,none⟩) n v.sc):=Q.touch.cell c48a HNE.out
      have fm48:w3.frozen? ⟨B,48,none⟩=false:=frozen_of_heap (Q.touch.heapAt HA3.out.blk HNE.out) 48
      clear Q c48 c48a y0
      refine hKK _ _ ?_
      clear hKK KK
      simp only [Act.put,List.setIfInBounds_toArray,List.set_cons_zero,List.set_cons_succ]
      refine tA 11 ?_
      try simp only [lA,lB,lC,Act.put,lD,lE,lF]
      refine tA 12 ?_
      try simp only [lA,lB,lC,Act.put,lD,lE,lF]
      refine wpAny_ready (rs:=[13]) (by kernel_rfl) (by simp) ?_
      refine AllReady.cons rfl (fun K hK=>?_) AllReady.nil
      go_simp
      refine hK _ _ ?_
      clear hK K
      refine wpAny_done (by kernel_rfl) ?_ _
      go_wp2
      go_end0
      exact HX.out _ g c (RChg.of HB02.out HV.out HPU.out)
end
def RV.pushAll (v:RV) (os:List OutG) (g:Option Nat) (c:Nat):RV:={ v with os:=v.os++os,sg:=g,sc:=c }
theorem RV.pushAll_nil (v:RV):v.pushAll [] v.sg v.sc=v:=by unfold RV.pushAll;rw [List.append_nil]
theorem RV.pushAll_push (v:RV) (os:List OutG) (g:Option Nat) (c:Nat) (x:OutG) (g' c':Nat):(v.pushAll os g c).push x g' c'=v.pushAll (os++[x]) (some g') c':=by
  unfold RV.pushAll RV.push
  dsimp only
  rw [List.append_assoc]
def AllRet (w:World) (B:Nat) (v:RV) (os:List OutG) (e:Ending) (w':World):Prop:=e=.returned (.tuple #[])∧∃ g c,RChg w w' B v (v.pushAll os g c)
theorem Box.touch' {T:Nat→Prop} {B:Nat} {v0 v1 v2 v3 v4 v5 v6 v7 v8 v9:Value} {x y:World} (h:Box B v0 v1 v2 v3 v4 v5 v6 v7 v8 v9 x) (ht:Touch T x y) (hn:¬ T B):Box B v0 v1 v2 v3 v4 v5 v6 v7 v8 v9 y:=ht.heapAt h hn
theorem RChg.box {x y:World} {B Q:Nat} {v u:RV} {v0 v1 v2 v3 v4 v5 v6 v7 v8 v9:Value} (h:RChg x y B v u) (hv:v.At x B) (hb:Box Q v0 v1 v2 v3 v4 v5 v6 v7 v8 v9 x):Box Q v0 v1 v2 v3 v4 v5 v6 v7 v8 v9 y :=
  hb.touch' h.tch (fun e=>by
    rcases e with e | e
    · subst e
      have h1:=hv.blk
      have h2:x.heap[Q]?=_:=hb
      rw [h1] at h2
      simp at h2
    · exact RowT.ne hv.so.own hb (by decide) e)
section
variable (v:RV) (B:Nat) (w:World) (h:v.At w B)
include h
theorem refAll (n:Nat) (hk:v.kp=n) (hn:n≤5) (f:Fr) (hf:f.lines=[]) (ho:v.os.length≤900) (b:List UInt8) (hb:packS { f with frm:=v.me }=b) :
    Calls Tryz.prog 110 #[.pointer (some ⟨B,0,none⟩),.agg #[.int .i64 f.kind,.int .i64 f.frm,.int .i64 f.view,.int .i64 f.place,.int .i64 f.agreed,.int .i64 f.last,.int .i64 f.line.c,.int .i64 f.line.t,.string ⟨f.line.s.toArray⟩,.slice none 0 0]] w (AllRet w B v ((othersL v.me n).map fun t=>⟨false,t,b⟩)):=by
  have HS:Hid (∀ (u:RV) (z:World) (t:Int),u.At z B→u.me=v.me→u.os.length≤1000→Calls Tryz.prog 107 #[.pointer (some ⟨B,0,none⟩),.int .i64 t,.agg #[.int .i64 f.kind,.int .i64 f.frm,.int .i64 f.view,.int .i64 f.place,.int .i64 f.agreed,.int .i64 f.last,.int .i64 f.line.c,.int .i64 f.line.t,.string ⟨f.line.s.toArray⟩,.slice none 0 0]] z (SentRet z B u ⟨false,t,b⟩)):=fun u z t hu he hl=>by
    have:=refSend u B z hu t f none 0 (by rw [hf];exact fun j hj=>absurd hj (Nat.not_lt_zero _)) (by rw [hf];exact Nat.zero_le _) (by rw [hf];exact Nat.zero_le _) hl b (by rw [he];exact hb)
    rw [hf] at this
    exact this
  have HBX:=hid (heap_alloc_new w (.cells #[.int .i64 f.kind,.int .i64 f.frm,.int .i64 f.view,.int .i64 f.place,.int .i64 f.agreed,.int .i64 f.last,.int .i64 f.line.c,.int .i64 f.line.t,.string ⟨f.line.s.toArray⟩,.slice none 0 0] 30))
  have H0:=hid (RChg.same h ((Below.refl _ w).alloc (Nat.le_refl _) (.cells #[.int .i64 f.kind,.int .i64 f.frm,.int .i64 f.view,.int .i64 f.place,.int .i64 f.agreed,.int .i64 f.last,.int .i64 f.line.c,.int .i64 f.line.t,.string ⟨f.line.s.toArray⟩,.slice none 0 0] 30)))
  have HX:Hid (∀ y g c,RChg w y B v (v.pushAll ((othersL v.me n).map fun t=>⟨false,t,b⟩) g c)→AllRet w B v ((othersL v.me n).map fun t=>⟨false,t,b⟩) (.returned (.tuple #[])) y):=fun y g c hh=>⟨rfl,g,c,hh⟩
  generalize hQ:AllRet w B v ((othersL v.me n).map fun t=>⟨false,t,b⟩)=Q at *
  clear hQ
  have HV:=hid h
  have HK:=hid hk
  clear h hb hf hk
  go_enter Tryz.func110,Tryz.ntmps110
  go_wp2
  go_loopw [4] (fun i wr=>∃ (k:Nat) (g:Option Nat) (c:Nat),k≤n∧i=.int .i64 k∧Hid (RChg w wr B v (v.pushAll ((othersL v.me k).map fun t=>⟨false,t,b⟩) g c))∧Hid (Box w.heap.size (.int .i64 f.kind) (.int .i64 f.frm) (.int .i64 f.view) (.int .i64 f.place) (.int .i64 f.agreed) (.int .i64 f.last) (.int .i64 f.line.c) (.int .i64 f.line.t) (.string ⟨f.line.s.toArray⟩) (.slice none 0 0) wr)) (fun i _=>n - (intOf i).toNat)
  case atStart=>exact ⟨0,v.sg,v.sc,Nat.zero_le _,rfl,by show RChg _ _ _ _ _;have:=H0.out;rw [← RV.pushAll_nil v] at this;rw [RV.pushAll_nil] at this;exact (by unfold othersL;rw [List.map_nil,RV.pushAll_nil];exact this),HBX.out⟩
  case round =>
    obtain ⟨k,g,c,hkn,rfl,HR,HQ⟩:=hrel
    have c0:wr.cell? ⟨B,0,none⟩=some (.int .i64 n):=by rw [← HK.out];exact cell_of_heap HR.out.at_.blk 0
    have c1:wr.cell? ⟨B,1,none⟩=some (.int .i64 v.me):=cell_of_heap HR.out.at_.blk 1
    have hol:=othersL_len v.me k
    by_cases hlt:k < n
    · have b1:(k:Int) < (n:Int):=by omega
      by_cases hme:(k:Int)=v.me
      · have HME:=hid hme
        have hbe:(k:Int)=v.me↔True:=iff_true_intro hme
        go_wp2
        go_roundw
        case rel=>exact ⟨k+1,g,c,by omega,by go_num,by unfold othersL;rw [if_pos HME.out,List.append_nil];exact HR,HQ⟩
        case measure=>simp [intOf];omega
      · have HSS:=hid (HS.out _ wr k HR.out.at_ rfl (by show (v.os++_).length≤1000;rw [List.length_append,List.length_map];omega))
        unfold SentRet at HSS
        obtain ⟨r0,r1,r2,r3,r4,r5,r6,r7,r8,r9⟩:=box_cells HQ.out
        go_wp2_with fail
        refine HSS.out.mono ?_
        rintro e x1 ⟨rfl,g2,c2,hch⟩
        have HQ2:=hid (hch.box HR.out.at_ HQ.out)
        have HR2:=hid (HR.out.trans hch)
        rw [RV.pushAll_push] at HR2
        clear hch
        go_wp2
        go_roundw
        case rel=>exact ⟨k+1,some g2,c2,by omega,by go_num,by unfold othersL;rw [if_neg hme,List.map_append];exact HR2,HQ2⟩
        case measure=>simp [intOf];omega
    · have hkn:k=n:=by omega
      subst hkn
      go_wp2
      go_end0
      exact HX.out _ g c HR.out
end
theorem ba_eq {a b:ByteArray} (h:a.data.toList=b.data.toList):a=b:=by
  have:=str_val h
  cases this
  rfl
theorem record_any (l:List UInt8) (w:World) (hn:l.length≤100000):Calls Tryz.prog 182 #[.string ⟨l.toArray⟩] w fun e w'=>e=.returned (.string ⟨(recBytes l).toArray⟩)∧Below w.heap.size w w':=by
  have hconv:=conv1'
  have HC:=hid (fun (s:ByteArray) z (hs:s=⟨(byteOf (l.length:Int) :: l).toArray⟩)=>checked_at s _ z (by simp;omega) hs)
  have hnl:¬ 9223372036854775807 < 1+l.length:=by omega
  unfold recBytes
  go_enter Tryz.func182,Tryz.ntmps182
  go_wp2_with fail
  refine (HC.out _ _ ?_).mono ?_
  · refine ba_eq ?_
    rw [ByteArray.data_append,Array.toList_append,byteOf_nat]
    rfl
  rintro e w1 ⟨rfl,hb⟩
  go_wp2
  go_ret
  exact ⟨rfl,((Below.refl _ w).alloc (Nat.le_refl _) _).trans (hb.mono (by simp))⟩
def RV.cleared (v:RV):RV:={ v with os:=[],sg:=none,sc:=0 }
section
variable (v:RV) (B:Nat) (w:World) (h:v.At w B)
include h
theorem refHolding (tk:Int) (ho:v.os.length≤1000) (b:List UInt8) (hb:packS ⟨3,v.me,v.m.view,v.m.ls.length,0,0,Ln.zero,[]⟩=b):Calls Tryz.prog 179 #[.pointer (some ⟨B,0,none⟩),.int .i64 tk] w (SentRet w B v ⟨false,tk,b⟩):=by
  have HS:Hid (∀ z,v.At z B→Calls Tryz.prog 107 #[.pointer (some ⟨B,0,none⟩),.int .i64 tk,.agg #[.int .i64 3,.int .i64 0,.int .i64 v.m.view,.int .i64 v.m.ls.length,.int .i64 0,.int .i64 0,.int .i64 0,.int .i64 0,.string ⟨#[]⟩,.slice none 0 0]] z (SentRet z B v ⟨false,tk,b⟩)):=fun z hz =>
    refSend v B z hz tk ⟨3,0,v.m.view,v.m.ls.length,0,0,Ln.zero,[]⟩ none 0 (fun j hj=>absurd hj (Nat.not_lt_zero _)) (Nat.zero_le _) (Nat.le_refl _) ho b hb
  have HV:=hid h
  have c7:w.cell? ⟨B,7,none⟩=some (.int .i64 v.m.view):=cell_of_heap h.blk 7
  have c9:w.cell? ⟨B,9,none⟩=some (.slice (v.g.map fun k=>⟨k,0,none⟩) v.m.ls.length v.c):=cell_of_heap h.blk 9
  have HX:Hid (∀ y,SentRet w.drew B v ⟨false,tk,b⟩ (.returned (.tuple #[])) y→SentRet w B v ⟨false,tk,b⟩ (.returned (.tuple #[])) y):=fun y hh=>by
    obtain ⟨h1,g,c,h2⟩:=hh
    exact ⟨h1,g,c,RChg.of ((Below.refl _ w).drew) HV.out h2⟩
  generalize hQ:SentRet w B v ⟨false,tk,b⟩=Q at *
  clear h hb hQ
  go_enter Tryz.func179,Tryz.ntmps179
  go_wp2
  go_still_tail 14,(by kernel_rfl)
  go_wp2_with fail
  refine (HS.out _ (HV.out.below ((Below.refl _ w).drew))).mono ?_
  rintro e y ⟨rfl,g,c,hch⟩
  have HCH:=hid hch
  clear hch
  go_wp2
  go_end0
  exact HX.out _ ⟨rfl,g,c,HCH.out⟩
theorem RV.At.clear:RChg w (w.setCell ⟨B,48,none⟩ (.slice none 0 0)) B v v.cleared∧OwnOutsR (w.setCell ⟨B,48,none⟩ (.slice none 0 0)) v.sg v.sc v.os:=by
  have t:Touch (fun k=>k=B) w (w.setCell ⟨B,48,none⟩ (.slice none 0 0)):=(Touch.refl (fun k=>k=B) w).setCell (p:=⟨B,48,none⟩) (fun _=>rfl) _
  have hb:=heap_setCell h.blk 48 (.slice none 0 0)
  have hc:v.cells.setIfInBounds 48 (.slice none 0 0)=v.cleared.cells:=by
    unfold RV.cells RV.cleared
    simp only [List.setIfInBounds_toArray,List.set_cons_zero,List.set_cons_succ,List.length_nil,Option.map_none]
  rw [hc] at hb
  refine ⟨⟨⟨hb,h.ls.touch' t (fun hn k e e2=>h.gK hn (by rw [e,e2])),h.lc,OwnOutsR.none_ _,h.gK,(fun _ k e=>by cases e)⟩,t.mono (fun i _ e=>.inl e),(fun k e=>by cases e),.inl rfl⟩,h.so.touch t (fun k e e2=>h.sK (by rw [e,e2]))⟩
theorem refDone:Calls Tryz.prog 103 #[.pointer (some ⟨B,0,none⟩)] w fun e w'=>e=.returned (.tuple #[if v.dead then .slice none 0 0 else .slice (v.sg.map fun k=>⟨k,0,none⟩) v.os.length v.sc,.int .i64 (if v.dead then 4 else 0)])∧RChg w w' B v v.cleared∧OwnOutsR w' v.sg v.sc v.os:=by
  have HCL:=hid (RV.At.clear v B w h)
  have c48:w.cell? ⟨B,48,none⟩=some (.slice (v.sg.map fun k=>⟨k,0,none⟩) v.os.length v.sc):=cell_of_heap h.blk 48
  have f48:w.frozen? ⟨B,48,none⟩=false:=frozen_of_heap h.blk 48
  have c5:w.cell? ⟨B,5,none⟩=some (.bool v.dead):=cell_of_heap h.blk 5
  clear h
  cases hd:v.dead
  · rw [hd] at c5
    simp only [Bool.false_eq_true,if_false]
    go_enter Tryz.func103,Tryz.ntmps103
    go_wp2
    go_ret2
    exact ⟨rfl,HCL.out⟩
  · rw [hd] at c5
    simp only [if_true]
    go_enter Tryz.func103,Tryz.ntmps103
    go_wp2
    go_ret2
    exact ⟨rfl,HCL.out⟩
theorem refWriteFail (hd:v.dead=false) (ha:v.arm=1) (l:List UInt8) (hn:l.length≤1000):Calls Tryz.prog 158 #[.pointer (some ⟨B,0,none⟩),.string ⟨l.toArray⟩] w fun e w'=>e=.returned (.bool false)∧RChg w w' B v { v with dead:=true,lost:=recBytes l }:=by
  have HV:=hid h
  have c5:w.cell? ⟨B,5,none⟩=some (.bool false):=by rw [← hd];exact cell_of_heap h.blk 5
  have HR:=hid (record_any l w (by omega))
  clear h
  go_enter Tryz.func158,Tryz.ntmps158
  go_wp2_with fail
  refine HR.out.mono ?_
  rintro e X ⟨rfl,hb⟩
  have HB:=hid hb
  have HVX:=hid (HV.out.below hb)
  clear hb c5
  have x4:X.cell? ⟨B,4,none⟩=some (.int .i64 1):=by rw [← ha];exact cell_of_heap HVX.out.blk 4
  have x5:X.cell? ⟨B,5,none⟩=some (.bool v.dead):=cell_of_heap HVX.out.blk 5
  have x6:X.cell? ⟨B,6,none⟩=some (.string ⟨v.lost.toArray⟩):=cell_of_heap HVX.out.blk 6
  have fx:∀ j,X.frozen? ⟨B,j,none⟩=false:=fun j=>frozen_of_heap HVX.out.blk j
  have H1:Hid (RChg X (X.setCell ⟨B,5,none⟩ (.bool true)) B v { v with dead:=true }):=HVX.out.cellChg (by unfold RV.cells;simp only [List.setIfInBounds_toArray,List.set_cons_zero,List.set_cons_succ]) ⟨rfl,rfl,rfl,rfl,rfl,rfl⟩
  have H2:Hid (RChg X ((X.setCell ⟨B,5,none⟩ (.bool true)).setCell ⟨B,6,none⟩ (.string ⟨(recBytes l).toArray⟩)) B v { v with dead:=true,lost:=recBytes l }):=H1.out.trans (H1.out.at_.cellChg (by unfold RV.cells;simp only [List.setIfInBounds_toArray,List.set_cons_zero,List.set_cons_succ]) ⟨rfl,rfl,rfl,rfl,rfl,rfl⟩)
  go_wp2
  go_ret
  exact ⟨rfl,RChg.of HB.out HV.out H2.out⟩
theorem refWriteOk (hd:v.dead=false) (narm:Int) (ha:(v.arm=0∧narm=0)∨(2≤v.arm∧v.arm≤9223372036854775807∧narm=v.arm - 1)) (l:List UInt8) (hn:l.length≤1000) (hdl:v.d.length≤9900000):Calls Tryz.prog 158 #[.pointer (some ⟨B,0,none⟩),.string ⟨l.toArray⟩] w fun e w'=>e=.returned (.bool true)∧RChg w w' B v { v with d:=v.d++recBytes l,arm:=narm }:=by
  have HV:=hid h
  have c5:w.cell? ⟨B,5,none⟩=some (.bool false):=by rw [← hd];exact cell_of_heap h.blk 5
  have HR:=hid (record_any l w (by omega))
  have hrl:(recBytes l).length≤1100:=by unfold recBytes withChk;simp;omega
  have HCAT:Hid ((⟨v.d.toArray⟩++⟨(recBytes l).toArray⟩:ByteArray)=⟨(v.d++recBytes l).toArray⟩):=ba_eq (by rw [ByteArray.data_append,Array.toList_append])
  clear h
  generalize recBytes l=r at *
  go_enter Tryz.func158,Tryz.ntmps158
  go_wp2_with fail
  refine HR.out.mono ?_
  rintro e X ⟨rfl,hb⟩
  have HB:=hid hb
  have HVX:=hid (HV.out.below hb)
  clear hb c5
  have hnl:¬ 9223372036854775807 < v.d.length+r.length:=by omega
  have x3:X.cell? ⟨B,3,none⟩=some (.string ⟨v.d.toArray⟩):=cell_of_heap HVX.out.blk 3
  have fx:∀ j,X.frozen? ⟨B,j,none⟩=false:=fun j=>frozen_of_heap HVX.out.blk j
  have key:∀ (u:RV) (z:World),u.At z B→u.d=v.d→RChg z (z.setCell ⟨B,3,none⟩ (.string (⟨v.d.toArray⟩++⟨r.toArray⟩))) B u { u with d:=v.d++r }:=fun u z hu he=>by
    rw [HCAT.out]
    exact hu.cellChg (by unfold RV.cells;simp only [List.setIfInBounds_toArray,List.set_cons_zero,List.set_cons_succ]) ⟨rfl,rfl,rfl,rfl,rfl,rfl⟩
  rcases ha with ⟨ha0,rfl⟩ | ⟨ha2,ha3,rfl⟩
  · have x4:X.cell? ⟨B,4,none⟩=some (.int .i64 0):=by rw [← ha0];exact cell_of_heap HVX.out.blk 4
    have H2:Hid (RChg X (X.setCell ⟨B,3,none⟩ (.string (⟨v.d.toArray⟩++⟨r.toArray⟩))) B v { v with d:=v.d++r,arm:=0 }):=by
      have:=key v X HVX.out rfl
      have e:({ v with d:=v.d++r }:RV)={ v with d:=v.d++r,arm:=0 }:=by rw [← ha0]
      rw [e] at this
      exact this
    clear key
    go_wp2
    go_ret
    exact ⟨rfl,RChg.of HB.out HV.out H2.out⟩
  · have x4:X.cell? ⟨B,4,none⟩=some (.int .i64 v.arm):=cell_of_heap HVX.out.blk 4
    have H1:Hid (RChg X (X.setCell ⟨B,4,none⟩ (.int .i64 (v.arm - 1))) B v { v with arm:=v.arm - 1 }):=HVX.out.cellChg (by unfold RV.cells;simp only [List.setIfInBounds_toArray,List.set_cons_zero,List.set_cons_succ]) ⟨rfl,rfl,rfl,rfl,rfl,rfl⟩
    have H2:Hid (RChg X ((X.setCell ⟨B,4,none⟩ (.int .i64 (v.arm - 1))).setCell ⟨B,3,none⟩ (.string (⟨v.d.toArray⟩++⟨r.toArray⟩))) B v { v with d:=v.d++r,arm:=v.arm - 1 }):=H1.out.trans (key _ _ H1.out.at_ rfl)
    have w1:IntKind.i64.wrap (v.arm - 1)=v.arm - 1:=by rw [IntWalk.i64_left,IntWalk.wrap64_in _ (by omega)]
    have b1:v.arm≠1:=by omega
    have b2:1 < v.arm:=by omega
    clear key
    go_wp2
    go_ret
    exact ⟨rfl,RChg.of HB.out HV.out H2.out⟩
end
theorem RChg.keepB {x y:World} {B Q:Nat} {v u:RV} {cur:Array Value} {e':TypeId} {f:Nat × Nat} (h:RChg x y B v u) (hv:v.At x B) (hQ:x.heap[Q]?=some (.cells cur e' f)) (n1:185≠e') (n2:190≠e'):y.heap[Q]?=some (.cells cur e' f) :=
  h.tch.heapAt hQ (fun e=>by
    rcases e with e | e
    · subst e
      have h1:=hv.blk
      rw [h1] at hQ
      simp at hQ
      exact n1 hQ.2.1
    · exact RowT.ne hv.so.own hQ n2 e)
theorem RV.At.setL {v:RV} {w w0:World} {B g c n:Nat} {m:Mm} (h:v.At w B) (ho:OwnLines w0 w (some g) c m.ls) (hn:m.ls.length=n) (hv:m.view=v.m.view∧m.last=v.m.last) :
    ({ v with m:=m,g:=some g,c:=c }:RV).At (w.setCell ⟨B,9,none⟩ (.slice (some ⟨g,0,none⟩) n c)) B∧Touch (fun k=>k=B∨v.sg=some k) w (w.setCell ⟨B,9,none⟩ (.slice (some ⟨g,0,none⟩) n c)):=by
  have t:Touch (fun k=>k=B) w (w.setCell ⟨B,9,none⟩ (.slice (some ⟨g,0,none⟩) n c)):=(Touch.refl (fun k=>k=B) w).setCell (p:=⟨B,9,none⟩) (fun _=>rfl) _
  have hb:=heap_setCell h.blk 9 (.slice (some ⟨g,0,none⟩) n c)
  have hc:v.cells.setIfInBounds 9 (.slice (some ⟨g,0,none⟩) n c)=({ v with m:=m,g:=some g,c:=c }:RV).cells:=by
    unfold RV.cells
    simp only [List.setIfInBounds_toArray,List.set_cons_zero,List.set_cons_succ,Option.map_some,hv.1,hv.2,hn]
  rw [hc] at hb
  have gB:some g≠some B:=RowT.ne ho.own h.blk (by decide)
  have gs:∀ k,v.sg=some k→some g≠some k:=fun k e e2=>by
    rcases h.so.own with ⟨e3,_⟩ | ⟨q,cur,e3,hq,_⟩
    · rw [e3] at e;cases e
    · rw [e3] at e
      cases e
      exact RowT.ne ho.own hq (by decide) e2
  have hl:=OwnLines.setOther ho B 9 (.slice (some ⟨g,0,none⟩) n c) gB
  exact ⟨⟨hb,hl.at_,hl.cap,h.so.touch t (fun k e e2=>h.sK (by rw [e,e2])),fun _=>gB,fun _ k e=>gs k e⟩,t.mono (fun i _ e=>.inl e)⟩
def RV.more (v:RV) (l:Ln) (narm:Int) (g c:Nat):RV:={ v with d:=v.d++recBytes (1 :: lineBytes l),arm:=narm,m:=⟨v.m.view,v.m.last,v.m.ls++[l]⟩,g:=some g,c:=c }
section
variable (v:RV) (B:Nat) (w:World) (h:v.At w B)
include h
theorem refMoreFail (hd:v.dead=false) (ha:v.arm=1) (l:Ln) (hls:l.s.length≤8):Calls Tryz.prog 151 #[.pointer (some ⟨B,0,none⟩),.agg #[.int .i64 l.c,.int .i64 l.t,.string ⟨l.s.toArray⟩]] w fun e w'=>e=.returned (.bool false)∧RChg w w' B v { v with dead:=true,lost:=recBytes (1 :: lineBytes l) }:=by
  have hll:(lineBytes l).length≤11:=by unfold lineBytes;simp;omega
  have HT:=hid (fun z=>lineText_any l z (by omega))
  have HW:Hid (∀ (s:ByteArray) z,s=⟨(1 :: lineBytes l).toArray⟩→v.At z B→Calls Tryz.prog 158 #[.pointer (some ⟨B,0,none⟩),.string s] z fun e w'=>e=.returned (.bool false)∧RChg z w' B v { v with dead:=true,lost:=recBytes (1 :: lineBytes l) }):=fun s z hs hz=>by
    subst hs
    exact refWriteFail v B z hz hd ha _ (by simp;omega)
  have HV:=hid h
  have hnl:¬ 9223372036854775807 < 1+(lineBytes l).length:=by omega
  have HBS:Hid ((⟨#[1]⟩++⟨(lineBytes l).toArray⟩:ByteArray)=⟨(1 :: lineBytes l).toArray⟩):=ba_eq (by rw [ByteArray.data_append,Array.toList_append];rfl)
  clear h
  generalize lineBytes l=lb at *
  go_enter Tryz.func151,Tryz.ntmps151
  go_wp2_with fail
  refine (HT.out _).mono ?_
  rintro e X1 ⟨rfl,hb1⟩
  have HB1:Hid (Below w.heap.size w X1):=((Below.refl _ w).alloc (Nat.le_refl _) _).trans (hb1.mono (by simp))
  clear hb1
  go_wp2_with fail
  refine (HW.out _ _ HBS.out (HV.out.below HB1.out)).mono ?_
  rintro e X2 ⟨rfl,hch⟩
  have HCH:=hid (RChg.of HB1.out HV.out hch)
  clear hch
  go_wp2
  go_ret
  exact ⟨rfl,HCH.out⟩
theorem refMoreOk (hd:v.dead=false) (narm:Int) (ha:(v.arm=0∧narm=0)∨(2≤v.arm∧v.arm≤9223372036854775807∧narm=v.arm - 1)) (hdl:v.d.length≤9900000) (hlen:v.m.ls.length≤1000) (l:Ln) (hls:l.s.length≤8):Calls Tryz.prog 151 #[.pointer (some ⟨B,0,none⟩),.agg #[.int .i64 l.c,.int .i64 l.t,.string ⟨l.s.toArray⟩]] w fun e w'=>e=.returned (.bool true)∧∃ g c,RChg w w' B v (v.more l narm g c):=by
  obtain ⟨il,hil,hil0,hil1,hil2⟩:=info_parts Tryz.info27
  have hll:(lineBytes l).length≤11:=by unfold lineBytes;simp;omega
  have HT:=hid (fun z=>lineText_any l z (by omega))
  have HW:Hid (∀ (s:ByteArray) z,s=⟨(1 :: lineBytes l).toArray⟩→v.At z B→Calls Tryz.prog 158 #[.pointer (some ⟨B,0,none⟩),.string s] z fun e w'=>e=.returned (.bool true)∧RChg z w' B v { v with d:=v.d++recBytes (1 :: lineBytes l),arm:=narm }):=fun s z hs hz=>by
    subst hs
    exact refWriteOk v B z hz hd narm ha _ (by simp;omega) hdl
  have HV:=hid h
  have hnl:¬ 9223372036854775807 < 1+(lineBytes l).length:=by omega
  have HBS:Hid ((⟨#[1]⟩++⟨(lineBytes l).toArray⟩:ByteArray)=⟨(1 :: lineBytes l).toArray⟩):=ba_eq (by rw [ByteArray.data_append,Array.toList_append];rfl)
  unfold RV.more
  clear h hd ha
  generalize lineBytes l=lb at *
  generalize recBytes (1 :: lb)=rb at *
  go_enter Tryz.func151,Tryz.ntmps151
  go_wp2_with fail
  refine (HT.out _).mono ?_
  rintro e X1 ⟨rfl,hb1⟩
  have HB1:Hid (Below w.heap.size w X1):=((Below.refl _ w).alloc (Nat.le_refl _) _).trans (hb1.mono (by simp))
  have HM1:Hid (MBox w.heap.size 27 (.int .i64 l.c) (.int .i64 l.t) (.string ⟨l.s.toArray⟩) X1):=(hb1.block _ (by simp)).trans (heap_alloc_new w _)
  clear hb1
  go_wp2_with fail
  refine (HW.out _ _ HBS.out (HV.out.below HB1.out)).mono ?_
  rintro e X2 ⟨rfl,hch⟩
  have HM2:=hid (hch.keepB (HV.out.below HB1.out) HM1.out (by decide) (by decide))
  have HCH:=hid (RChg.of HB1.out HV.out hch)
  clear hch HM1 HT HW
  have HU:=hid HCH.out.at_
  have x9:X2.cell? ⟨B,9,none⟩=some (.slice (v.g.map fun k=>⟨k,0,none⟩) v.m.ls.length v.c):=cell_of_heap HU.out.blk 9
  have HSRC:=hid (lines_src (v.g.map fun k=>(⟨k,0,none⟩:Addr)) v.c v.m.ls X2 HU.out.ls)
  have HNN:Hid (v.m.ls.length * 32≤140737488355328∧v.m.ls.length≤140737488355328):=⟨by omega,by omega⟩
  go_wp2_with (at_builtin;refine wpList_appN _ rfl (.tmp 15) (.tmp 20) 28 28 rfl 27 il (.agg #[.int .i64 0,.int .i64 0,.string ⟨#[]⟩]) 3 32 Tryz.underlying28 hil hil0 hil1 hil2 rfl rfl _ rfl v.m.ls.length (lnCells v.m.ls) HSRC.out HNN.out.1 HNN.out.2 ?_)
  intro gb cb X3 NP
  have HOL:=hid NP.lines
  have hb23:=NP.below
  have HM3:=hid ((hb23.block _ (heap_lt HM2.out)).trans HM2.out)
  have HB23:=hid hb23
  clear NP hb23 x9
  generalize hk:v.m.ls.length=k at *
  have HK:=hid hk
  clear hk
  have HOL4:=hid (HOL.out.below ((Below.refl _ X3).alloc (Nat.le_refl _) (.cells #[.int .i64 l.c,.int .i64 l.t,.string ⟨l.s.toArray⟩] 27)))
  have HB24:=hid (HB23.out.alloc HB23.out.size (.cells #[.int .i64 l.c,.int .i64 l.t,.string ⟨l.s.toArray⟩] 27))
  have HOW:Hid (OwnRow (X3.alloc (.cells #[.int .i64 l.c,.int .i64 l.t,.string ⟨l.s.toArray⟩] 27)) 27 3 gb k cb):=by have:=HOL4.out.own;rw [HK.out] at this;exact this
  obtain ⟨m0,m1,m2,fm⟩:=mbox_cells HM3.out
  unfold sl
  go_wp2_with (at_builtin;refine wpList_app _ rfl (.tmp 23) (.tmp 25) 28 rfl 27 il (.agg #[.int .i64 0,.int .i64 0,.string ⟨#[]⟩]) 3 32 Tryz.underlying28 hil hil0 hil1 hil2 rfl gb k cb (by rfl) HOW.out ⟨X3.heap.size,0,none⟩ 1 1 [.int .i64 l.c,.int .i64 l.t,.string ⟨l.s.toArray⟩] rfl rfl ?c1 ?c2 (by omega) (by omega) (by omega) ?_)
  case c1=>exact World.news_of_block (heap_alloc_new X3 _)
  case c2=>intro u hu;simp at hu;rcases hu with rfl | rfl | rfl <;> rfl
  intro g' c' X5 Q
  have HO5:=hid (HOL4.out.app' HB24.out HK.out Q)
  clear Q m0 m1 m2 fm
  have HU5:=hid (HU.out.below HO5.out.2)
  have HSL:=hid (HU5.out.setL (m:=⟨v.m.view,v.m.last,v.m.ls++[l]⟩) HO5.out.1 (by rw [List.length_append,HK.out];rfl:(v.m.ls++[l]).length=k+1) ⟨rfl,rfl⟩)
  have y9:X5.cell? ⟨B,9,none⟩=some (.slice (v.g.map fun k=>⟨k,0,none⟩) v.m.ls.length v.c):=cell_of_heap HU5.out.blk 9
  have fy:X5.frozen? ⟨B,9,none⟩=false:=frozen_of_heap HU5.out.blk 9
  go_wp2
  go_ret
  refine ⟨rfl,g',c',HSL.out.1,(HCH.out.tch.trans (Touch.of_belowAll HO5.out.2 (fun _=>False)) (fun _ _ e=>e.elim)).trans HSL.out.2 (fun i hi e=>e),fun k e=>HCH.out.sn k e,.inr (fun k e=>?_)⟩
  have e:some g'=some k:=e
  exact Nat.le_trans HCH.out.tch.size (HO5.out.1.new k e)
end
end
end Go.Proofs.YtolififimldmlaaGreat
