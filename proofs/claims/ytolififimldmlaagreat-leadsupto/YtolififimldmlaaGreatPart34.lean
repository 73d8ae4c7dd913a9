import Derived.Test.YtolififimldmlaaGreatPart31
import Derived.Test.YtolififimldmlaaGreatPart33
import Derived.Test.YtolififimldmlaaGreatPart28
set_option linter.unusedVariables false
set_option linter.unusedSimpArgs false
set_option maxRecDepth 100000
set_option maxHeartbeats 16000000
namespace Go.Proofs.YtolififimldmlaaGreat
section
open Go.RowKit
attribute [local go_sem ↓] Go.wp_at_zero Go.wp_at_succ
theorem RV.At.blkChg {v u:RV} {w w':World} {B:Nat} (h:v.At w B) (t:Touch (fun k=>k=B) w w') (hb:w'.heap[B]?=some (.cells u.cells 185 (0,0))) (hd:u.m.ls=v.m.ls∧u.os=v.os∧u.g=v.g∧u.c=v.c∧u.sg=v.sg∧u.sc=v.sc):RChg w w' B v u:=by
  obtain ⟨e1,e2,e3,e4,e5,e6⟩:=hd
  refine ⟨⟨hb,?_,?_,?_,?_,?_⟩,t.mono (fun i _ e=>.inl e),fun k e=>.inl (by rw [← e5];exact e),.inl e3⟩
  · rw [e1,e3];exact h.ls.touch' t (fun hn k e e2=>h.gK hn (by rw [e,e2]))
  · rw [e1,e4];exact h.lc
  · rw [e2,e5,e6];exact h.so.touch t (fun k e e2=>h.sK (by rw [e,e2]))
  · rw [e1,e3];exact h.gK
  · rw [e1,e3,e5];exact h.gS
structure RMov (w w':World) (B:Nat) (v v':RV):Prop where
  at_:v'.At w' B
  tch:Touch (fun k=>k=B∨v.sg=some k) w w'
  sn:∀ k,v'.sg=some k→v.sg=some k∨w.heap.size≤k
theorem RChg.mov {w w':World} {B:Nat} {v v':RV} (h:RChg w w' B v v'):RMov w w' B v v':=⟨h.at_,h.tch,h.sn⟩
theorem RMov.trans {w x y:World} {B:Nat} {v u t:RV} (h:RMov w x B v u) (k:RMov x y B u t):RMov w y B v t :=
  ⟨k.at_,h.tch.trans k.tch (fun i hi e=>by
    rcases e with e | e
    · exact .inl e
    · rcases h.sn i e with e | e
      · exact .inr e
      · omega),fun i e=>by
    rcases k.sn i e with e | e
    · exact h.sn i e
    · exact .inr (Nat.le_trans h.tch.size e)⟩
theorem RV.At.setM {v:RV} {w w0:World} {B c n:Nat} {g:Option Nat} {ls:List Ln} (h:v.At w B) (ho:OwnLines w0 w g c ls) (hn:ls.length=n) :
    RMov w (((w.setCell ⟨B,7,none⟩ (.int .i64 0)).setCell ⟨B,8,none⟩ (.int .i64 0)).setCell ⟨B,9,none⟩ (.slice (g.map fun k=>⟨k,0,none⟩) n c)) B v { v with m:=⟨0,0,ls⟩,g:=g,c:=c }:=by
  subst hn
  have t:Touch (fun k=>k=B) w (((w.setCell ⟨B,7,none⟩ (.int .i64 0)).setCell ⟨B,8,none⟩ (.int .i64 0)).setCell ⟨B,9,none⟩ (.slice (g.map fun k=>⟨k,0,none⟩) ls.length c)):=(((Touch.refl (fun k=>k=B) w).setCell (p:=⟨B,7,none⟩) (fun _=>rfl) _).setCell (p:=⟨B,8,none⟩) (fun _=>rfl) _).setCell (p:=⟨B,9,none⟩) (fun _=>rfl) _
  have hb:=heap_setCell (heap_setCell (heap_setCell h.blk 7 (.int .i64 0)) 8 (.int .i64 0)) 9 (.slice (g.map fun k=>⟨k,0,none⟩) ls.length c)
  have hc:((v.cells.setIfInBounds 7 (.int .i64 0)).setIfInBounds 8 (.int .i64 0)).setIfInBounds 9 (.slice (g.map fun k=>⟨k,0,none⟩) ls.length c)=({ v with m:=⟨0,0,ls⟩,g:=g,c:=c }:RV).cells:=by
    unfold RV.cells
    simp only [List.setIfInBounds_toArray,List.set_cons_zero,List.set_cons_succ]
  rw [hc] at hb
  have gB:g≠some B:=RowT.ne ho.own h.blk (by decide)
  have gs:∀ k,v.sg=some k→g≠some k:=fun k e e2=>by
    rcases h.so.own with ⟨e3,_⟩ | ⟨q,cur,e3,hq,_⟩
    · rw [e3] at e;cases e
    · rw [e3] at e
      cases e
      exact RowT.ne ho.own hq (by decide) e2
  have hl:=OwnLines.setOther (OwnLines.setOther (OwnLines.setOther ho B 7 (.int .i64 0) gB) B 8 (.int .i64 0) gB) B 9 (.slice (g.map fun k=>⟨k,0,none⟩) ls.length c) gB
  exact ⟨⟨hb,hl.at_,hl.cap,h.so.touch t (fun k e e2=>h.sK (by rw [e,e2])),fun _=>gB,fun _ k e=>gs k e⟩,t.mono (fun i _ e=>.inl e),fun k e=>.inl e⟩
theorem RV.At.noHolds {v:RV} {w:World} {B:Nat} (h:v.At w B):RChg w (((((w.setCell ⟨B,11,none⟩ (.int .i64 0)).setCell ⟨B,12,none⟩ (.int .i64 0)).setCell ⟨B,13,none⟩ (.int .i64 0)).setCell ⟨B,14,none⟩ (.int .i64 0)).setCell ⟨B,15,none⟩ (.int .i64 0)) B v { v with hs:=fun _=>0 } :=
  h.blkChg ((((((Touch.refl (fun k=>k=B) w).setCell (p:=⟨B,11,none⟩) (fun _=>rfl) (.int .i64 0)).setCell (p:=⟨B,12,none⟩) (fun _=>rfl) (.int .i64 0)).setCell (p:=⟨B,13,none⟩) (fun _=>rfl) (.int .i64 0)).setCell (p:=⟨B,14,none⟩) (fun _=>rfl) (.int .i64 0)).setCell (p:=⟨B,15,none⟩) (fun _=>rfl) (.int .i64 0)) (by
    have hb:=(heap_setCell (heap_setCell (heap_setCell (heap_setCell (heap_setCell h.blk 11 (.int .i64 0)) 12 (.int .i64 0)) 13 (.int .i64 0)) 14 (.int .i64 0)) 15 (.int .i64 0))
    unfold RV.cells at hb
    simp only [List.setIfInBounds_toArray,List.set_cons_zero,List.set_cons_succ] at hb
    exact hb) ⟨rfl,rfl,rfl,rfl,rfl,rfl⟩
section
variable (v:RV) (B:Nat) (w:World) (h:v.At w B)
include h
theorem refForget:Calls Tryz.prog 159 #[.pointer (some ⟨B,0,none⟩)] w fun e w'=>e=.returned (.tuple #[])∧RChg w w' B v v:=by
  have x16:w.cell? ⟨B,16,none⟩=some (.bool false):=cell_of_heap h.blk 16
  have x17:w.cell? ⟨B,17,none⟩=some (.bool false):=cell_of_heap h.blk 17
  have x18:w.cell? ⟨B,18,none⟩=some (.bool false):=cell_of_heap h.blk 18
  have x19:w.cell? ⟨B,19,none⟩=some (.bool false):=cell_of_heap h.blk 19
  have x20:w.cell? ⟨B,20,none⟩=some (.bool false):=cell_of_heap h.blk 20
  have x21:w.cell? ⟨B,21,none⟩=some (.bool false):=cell_of_heap h.blk 21
  have x22:w.cell? ⟨B,22,none⟩=some (.bool false):=cell_of_heap h.blk 22
  have x23:w.cell? ⟨B,23,none⟩=some (.bool false):=cell_of_heap h.blk 23
  have x24:w.cell? ⟨B,24,none⟩=some (.bool false):=cell_of_heap h.blk 24
  have x25:w.cell? ⟨B,25,none⟩=some (.bool false):=cell_of_heap h.blk 25
  have x46:w.cell? ⟨B,46,none⟩=some (.bool false):=cell_of_heap h.blk 46
  have fx:∀ j,w.frozen? ⟨B,j,none⟩=false:=fun j=>frozen_of_heap h.blk j
  have H:Hid (RChg w (((((((((((w.setCell ⟨B,16,none⟩ (.bool false)).setCell ⟨B,17,none⟩ (.bool false)).setCell ⟨B,18,none⟩ (.bool false)).setCell ⟨B,19,none⟩ (.bool false)).setCell ⟨B,20,none⟩ (.bool false)).setCell ⟨B,21,none⟩ (.bool false)).setCell ⟨B,22,none⟩ (.bool false)).setCell ⟨B,23,none⟩ (.bool false)).setCell ⟨B,24,none⟩ (.bool false)).setCell ⟨B,25,none⟩ (.bool false)).setCell ⟨B,46,none⟩ (.bool false)) B v v):=h.blkChg ((((((((((((Touch.refl (fun k=>k=B) w).setCell (p:=⟨B,16,none⟩) (fun _=>rfl) (.bool false)).setCell (p:=⟨B,17,none⟩) (fun _=>rfl) (.bool false)).setCell (p:=⟨B,18,none⟩) (fun _=>rfl) (.bool false)).setCell (p:=⟨B,19,none⟩) (fun _=>rfl) (.bool false)).setCell (p:=⟨B,20,none⟩) (fun _=>rfl) (.bool false)).setCell (p:=⟨B,21,none⟩) (fun _=>rfl) (.bool false)).setCell (p:=⟨B,22,none⟩) (fun _=>rfl) (.bool false)).setCell (p:=⟨B,23,none⟩) (fun _=>rfl) (.bool false)).setCell (p:=⟨B,24,none⟩) (fun _=>rfl) (.bool false)).setCell (p:=⟨B,25,none⟩) (fun _=>rfl) (.bool false)).setCell (p:=⟨B,46,none⟩) (fun _=>rfl) (.bool false)) (by
    have hb:=(heap_setCell (heap_setCell (heap_setCell (heap_setCell (heap_setCell (heap_setCell (heap_setCell (heap_setCell (heap_setCell (heap_setCell (heap_setCell h.blk 16 (.bool false)) 17 (.bool false)) 18 (.bool false)) 19 (.bool false)) 20 (.bool false)) 21 (.bool false)) 22 (.bool false)) 23 (.bool false)) 24 (.bool false)) 25 (.bool false)) 46 (.bool false))
    unfold RV.cells at hb
    simp only [List.setIfInBounds_toArray,List.set_cons_zero,List.set_cons_succ] at hb
    exact hb) ⟨rfl,rfl,rfl,rfl,rfl,rfl⟩
  clear h
  go_enter Tryz.func159,Tryz.ntmps159
  go_wp2
  go_end0
  exact ⟨rfl,H.out⟩
end
def RV.took (v:RV) (ls:List Ln) (narm:Int) (g:Option Nat) (c:Nat):RV:={ v with d:=v.d++recBytes (3 :: 0 :: linesBytes ls),arm:=narm,m:=⟨0,0,ls⟩,g:=g,c:=c,hs:=fun _=>0 }
section
variable (v:RV) (B:Nat) (w:World) (h:v.At w B)
include h
theorem refTakeFail (hd:v.dead=false) (ha:v.arm=1) (w0:World) (g:Option Nat) (c:Nat) (ls:List Ln) (ho:OwnLines w0 w g c ls) (h20:ls.length≤20) (hs:∀ l ∈ ls,l.s.length≤8) (hbl:(linesBytes ls).length≤300):Calls Tryz.prog 181 #[.pointer (some ⟨B,0,none⟩),.int .i64 0,.slice (g.map fun k=>⟨k,0,none⟩) ls.length c] w fun e w'=>e=.returned (.bool false)∧RChg w w' B v { v with dead:=true,lost:=recBytes (3 :: 0 :: linesBytes ls) }:=by
  have HT:Hid (∀ z,Below w.heap.size w z→Calls Tryz.prog 95 #[.slice (g.map fun k=>⟨k,0,none⟩) ls.length c] z fun e w'=>e=.returned (.string ⟨(linesBytes ls).toArray⟩)∧Below z.heap.size z w'):=fun z hz=>linesText_any _ c ls z (ho.at_.below hz) (by omega) hs
  have HW:Hid (∀ (s:ByteArray) z,s=⟨(3 :: 0 :: linesBytes ls).toArray⟩→v.At z B→Calls Tryz.prog 158 #[.pointer (some ⟨B,0,none⟩),.string s] z fun e w'=>e=.returned (.bool false)∧RChg z w' B v { v with dead:=true,lost:=recBytes (3 :: 0 :: linesBytes ls) }):=fun s z hs hz=>by
    subst hs
    exact refWriteFail v B z hz hd ha _ (by simp;omega)
  have HV:=hid h
  have hconv:=conv2
  have hnl:¬ 9223372036854775807 < 2+(linesBytes ls).length:=by omega
  have HBS:Hid ((⟨[3,0].toArray⟩++⟨(linesBytes ls).toArray⟩:ByteArray)=⟨(3 :: 0 :: linesBytes ls).toArray⟩):=ba_eq (by rw [ByteArray.data_append,Array.toList_append];rfl)
  clear h hd ha hs ho
  generalize linesBytes ls=lb at *
  generalize recBytes (3 :: 0 :: lb)=rb at *
  go_enter Tryz.func181,Tryz.ntmps181
  go_wp2_with fail
  refine (HT.out _ (Below.refl _ _)).mono ?_
  rintro e X1 ⟨rfl,hb1⟩
  have HB1:=hid (hb1.alloc hb1.size (.cells #[.int .u8 3,.int .u8 0] 5))
  clear hb1
  go_wp2_with fail
  refine (HW.out _ _ HBS.out (HV.out.below HB1.out)).mono ?_
  rintro e X2 ⟨rfl,hch⟩
  have HCH:=hid (RChg.of HB1.out HV.out hch)
  clear hch
  go_wp2
  go_ret
  exact ⟨rfl,HCH.out⟩
theorem refTakeOk (hd:v.dead=false) (narm:Int) (ha:(v.arm=0∧narm=0)∨(2≤v.arm∧v.arm≤9223372036854775807∧narm=v.arm - 1)) (hdl:v.d.length≤9900000) (w0:World) (g:Option Nat) (c:Nat) (ls:List Ln) (ho:OwnLines w0 w g c ls) (h20:ls.length≤20) (hs:∀ l ∈ ls,l.s.length≤8) (hbl:(linesBytes ls).length≤300) (hag:v.ag≤ls.length):Calls Tryz.prog 181 #[.pointer (some ⟨B,0,none⟩),.int .i64 0,.slice (g.map fun k=>⟨k,0,none⟩) ls.length c] w fun e w'=>e=.returned (.bool true)∧RMov w w' B v (v.took ls narm g c):=by
  have HT:Hid (∀ z,Below w.heap.size w z→Calls Tryz.prog 95 #[.slice (g.map fun k=>⟨k,0,none⟩) ls.length c] z fun e w'=>e=.returned (.string ⟨(linesBytes ls).toArray⟩)∧Below z.heap.size z w'):=fun z hz=>linesText_any _ c ls z (ho.at_.below hz) (by omega) hs
  have HW:Hid (∀ (s:ByteArray) z,s=⟨(3 :: 0 :: linesBytes ls).toArray⟩→v.At z B→Calls Tryz.prog 158 #[.pointer (some ⟨B,0,none⟩),.string s] z fun e w'=>e=.returned (.bool true)∧RChg z w' B v { v with d:=v.d++recBytes (3 :: 0 :: linesBytes ls),arm:=narm }):=fun s z hs hz=>by
    subst hs
    exact refWriteOk v B z hz hd narm ha _ (by simp;omega) hdl
  have HV:=hid h
  have hconv:=conv2
  have hnl:¬ 9223372036854775807 < 2+(linesBytes ls).length:=by omega
  have HBS:Hid ((⟨[3,0].toArray⟩++⟨(linesBytes ls).toArray⟩:ByteArray)=⟨(3 :: 0 :: linesBytes ls).toArray⟩):=ba_eq (by rw [ByteArray.data_append,Array.toList_append];rfl)
  have HO:=hid ho
  unfold RV.took
  clear h hd ha hs ho
  generalize linesBytes ls=lb at *
  generalize recBytes (3 :: 0 :: lb)=rb at *
  go_enter Tryz.func181,Tryz.ntmps181
  go_wp2_with fail
  refine (HT.out _ (Below.refl _ _)).mono ?_
  rintro e X1 ⟨rfl,hb1⟩
  have HB1:=hid (hb1.alloc hb1.size (.cells #[.int .u8 3,.int .u8 0] 5))
  clear hb1
  go_wp2_with fail
  refine (HW.out _ _ HBS.out (HV.out.below HB1.out)).mono ?_
  rintro e X2 ⟨rfl,hch⟩
  have HO1:=hid (HO.out.below HB1.out)
  have HO2:Hid (OwnLines w0 X2 g c ls):=by
    have hv1:=HV.out.below HB1.out
    have hn:∀ k,g=some k→¬ (k=B∨v.sg=some k):=fun k e e2=>by
      rcases e2 with e2 | e2
      · exact RowT.ne HO1.out.own hv1.blk (by decide) (by rw [e,e2])
      · rcases hv1.so.own with ⟨e3,_⟩ | ⟨q,cur,e3,hq,_⟩
        · rw [e3] at e2;cases e2
        · rw [e3] at e2
          cases e2
          exact RowT.ne HO1.out.own hq (by decide) e
    exact ⟨HO1.out.at_.touch hch.tch (fun q e=>by
      cases hg:g with
      | none=>rw [hg] at e;cases e
      | some g0=>rw [hg] at e;cases e;exact hn g0 hg),HO1.out.own.touch hch.tch hn,HO1.out.new⟩
  have HCH:=hid (RChg.of HB1.out HV.out hch)
  clear hch HO1 HO
  have HU:=hid HCH.out.at_
  have HM:=hid (HU.out.setM HO2.out rfl)
  have x7:X2.cell? ⟨B,7,none⟩=some (.int .i64 v.m.view):=cell_of_heap HU.out.blk 7
  have x8:X2.cell? ⟨B,8,none⟩=some (.int .i64 v.m.last):=cell_of_heap HU.out.blk 8
  have x9:X2.cell? ⟨B,9,none⟩=some (.slice (v.g.map fun k=>⟨k,0,none⟩) v.m.ls.length v.c):=cell_of_heap HU.out.blk 9
  have x10:X2.cell? ⟨B,10,none⟩=some (.int .i64 v.ag):=cell_of_heap HU.out.blk 10
  have fx:∀ j,X2.frozen? ⟨B,j,none⟩=false:=fun j=>frozen_of_heap HU.out.blk j
  have b1:¬ ((ls.length:Int) < (v.ag:Int)):=by omega
  go_wp2_with fail
  refine (refForget _ B _ HM.out.at_).mono ?_
  rintro e X3 ⟨rfl,hf⟩
  have HF:=hid hf
  clear hf x7 x8 x9 x10 fx
  have HN:=hid (HF.out.at_.noHolds)
  have y11:X3.cell? ⟨B,11,none⟩=some (.int .i64 (v.hs 0)):=cell_of_heap HF.out.at_.blk 11
  have y12:X3.cell? ⟨B,12,none⟩=some (.int .i64 (v.hs 1)):=cell_of_heap HF.out.at_.blk 12
  have y13:X3.cell? ⟨B,13,none⟩=some (.int .i64 (v.hs 2)):=cell_of_heap HF.out.at_.blk 13
  have y14:X3.cell? ⟨B,14,none⟩=some (.int .i64 (v.hs 3)):=cell_of_heap HF.out.at_.blk 14
  have y15:X3.cell? ⟨B,15,none⟩=some (.int .i64 (v.hs 4)):=cell_of_heap HF.out.at_.blk 15
  have fy:∀ j,X3.frozen? ⟨B,j,none⟩=false:=fun j=>frozen_of_heap HF.out.at_.blk j
  go_wp2
  go_ret
  exact ⟨rfl,((HCH.out.mov.trans HM.out).trans HF.out.mov).trans HN.out.mov⟩
end
end
section
theorem few2 (a b x:Int):1≤((if x < a then 1 else 0)+(if x < b then 1 else 0):Nat)↔x < (sinks 1 [a,b] 1).getD 1 0:=by
  simp only [sinks,sink,List.getD_cons_succ,List.getD_cons_zero,List.set_cons_succ,List.set_cons_zero]
  repeat' split
  all_goals simp only [List.getD_cons_succ,List.getD_cons_zero] at *
  all_goals omega
theorem few4 (a b c d x:Int):2≤((if x < a then 1 else 0)+(if x < b then 1 else 0)+(if x < c then 1 else 0)+(if x < d then 1 else 0):Nat)↔x < (sinks 3 [a,b,c,d] 1).getD 2 0:=by
  have e1:∀ p q r s:Int,sink [p,q,r,s] 1=if q < p then [q,p,r,s] else [p,q,r,s]:=fun p q r s=>by
    simp only [sink,List.getD_cons_succ,List.getD_cons_zero,List.set_cons_succ,List.set_cons_zero]
  have e2:∀ p q r s:Int,sink [p,q,r,s] 2=if r < q then sink [p,r,q,s] 1 else [p,q,r,s]:=fun p q r s=>by
    conv=>lhs;unfold sink
    simp only [List.getD_cons_succ,List.getD_cons_zero,List.set_cons_succ,List.set_cons_zero]
  have e3:∀ p q r s:Int,sink [p,q,r,s] 3=if s < r then sink [p,q,s,r] 2 else [p,q,r,s]:=fun p q r s=>by
    conv=>lhs;unfold sink
    simp only [List.getD_cons_succ,List.getD_cons_zero,List.set_cons_succ,List.set_cons_zero]
  show _↔x < (sink (sink (sink [a,b,c,d] 1) 2) 3).getD 2 0
  have key:∀ p q r s:Int,p≤q→q≤r→(sink [p,q,r,s] 3).getD 2 0=if s < r then (if s < q then q else s) else r:=fun p q r s h1 h2=>by
    rw [e3]
    by_cases h3:s < r
    · rw [if_pos h3,if_pos h3,e2]
      by_cases h4:s < q
      · rw [if_pos h4,if_pos h4,e1]
        by_cases h5:s < p
        · rw [if_pos h5];rfl
        · rw [if_neg h5];rfl
      · rw [if_neg h4,if_neg h4];rfl
    · rw [if_neg h3,if_neg h3];rfl
  have key2:∀ p q r s:Int,p≤q→(sink (sink [p,q,r,s] 2) 3).getD 2 0=if r < q then (if s < q then (if s < max p r then max p r else s) else q) else (if s < r then (if s < q then q else s) else r):=fun p q r s h1=>by
    rw [e2]
    by_cases h3:r < q
    · rw [if_pos h3,if_pos h3,e1]
      by_cases h4:r < p
      · rw [if_pos h4,key _ _ _ _ (by omega) h1,show max p r=p from by omega]
      · rw [if_neg h4,key _ _ _ _ (by omega) (by omega),show max p r=r from by omega]
    · rw [if_neg h3,if_neg h3,key _ _ _ _ h1 (by omega)]
  rw [e1]
  by_cases h1:b < a
  · rw [if_pos h1,key2 _ _ _ _ (by omega)]
    (repeat' split) <;> omega
  · rw [if_neg h1,key2 _ _ _ _ (by omega)]
    (repeat' split) <;> omega
structure Did where
  os:List OutG
  er:Int
  st:LK
def armNext (a:Int):Int:=if 1 < a then a - 1 else 0
def LK.wrote (s:LK) (inner:List UInt8) (m:Mm):LK:={ s with d:=s.d++recBytes inner,m:=m,arm:=armNext s.arm }
def LK.crash (s:LK) (inner:List UInt8):LK:={ s with lost:=recBytes inner }
def LK.toAll (s:LK) (f:Fr):List OutG:=(othersL s.me s.kp.toNat).map fun t=>⟨false,t,packS f⟩
def toldO (m:Mm) (n:Nat):OutG:=⟨true,(m.ls.getD n Ln.zero).c,packS ⟨9,0,m.view,(n+1:Nat),0,0,⟨(m.ls.getD n Ln.zero).c,(m.ls.getD n Ln.zero).t,[]⟩,[]⟩⟩
def sameTurn (l x:Ln):Bool:=(x.c == l.c) && (x.t == l.t)
def tellsN (m:Mm) (l:Ln) (k:Nat):List OutG:=((List.range k).filter fun n=>sameTurn l (m.ls.getD n Ln.zero)).map (toldO m)
theorem tellsN_succ (m:Mm) (l:Ln) (k:Nat):tellsN m l (k+1)=tellsN m l k++(if sameTurn l (m.ls.getD k Ln.zero) then [toldO m k] else []):=by
  unfold tellsN
  rw [List.range_succ,List.filter_append,List.map_append]
  congr 1
  cases h:sameTurn l (m.ls.getD k Ln.zero)
  · rw [List.filter_cons_of_neg (by rw [h];simp)];rfl
  · rw [List.filter_cons_of_pos (by rw [h])];rfl
def LK.say (s:LK) (l:Ln):Did :=
  if s.me≠0 then ⟨[],0,s⟩
  else if l.t≤turnOf s.m.ls l.c then ⟨tellsN s.m l s.agreed,0,s⟩
  else if 20≤s.m.ls.length then ⟨[],0,s⟩
  else if s.arm=1 then ⟨[],4,s.crash (1 :: lineBytes l)⟩
  else ⟨s.toAll ⟨2,s.me,s.m.view,(s.m.ls.length+1:Nat),s.agreed,0,l,[]⟩,0,s.wrote (1 :: lineBytes l) ⟨s.m.view,s.m.last,s.m.ls++[l]⟩⟩
def LK.held (s:LK) (f:Fr):Did :=
  if (s.m.ls.length:Int) < f.place then ⟨[],0,s⟩
  else ⟨toldL s.m s.agreed (max s.agreed (heldFew (holdsSet s.hs f.frm.toNat (max (s.hs f.frm.toNat) f.place)) s.me s.kp.toNat).toNat - s.agreed),0,
    { s with hs:=holdsSet s.hs f.frm.toNat (max (s.hs f.frm.toNat) f.place),agreed:=max s.agreed (heldFew (holdsSet s.hs f.frm.toNat (max (s.hs f.frm.toNat) f.place)) s.me s.kp.toNat).toNat }⟩
def LK.holding (s:LK) (tk agreed:Int):Did :=
  ⟨[⟨false,tk,packS ⟨3,s.me,s.m.view,s.m.ls.length,0,0,Ln.zero,[]⟩⟩],0,{ s with agreed:=min (max s.agreed agreed.toNat) s.m.ls.length }⟩
def LK.lagging (s:LK) (tk:Int):Did:=⟨[⟨false,tk,packS ⟨8,s.me,s.m.view,0,0,0,Ln.zero,[]⟩⟩],0,s⟩
def LK.prepared (s:LK) (f:Fr):Did :=
  if f.place=s.m.ls.length+1 then
    (if f.line.t≤turnOf s.m.ls f.line.c then ⟨[],0,s⟩ else if s.arm=1 then ⟨[],4,s.crash (1 :: lineBytes f.line)⟩
    else (s.wrote (1 :: lineBytes f.line) ⟨s.m.view,s.m.last,s.m.ls++[f.line]⟩).holding f.frm f.agreed)
  else if (s.m.ls.length:Int) < f.place then s.lagging f.frm else s.holding f.frm f.agreed
def LK.beaten (s:LK) (f:Fr):Did:=if (s.m.ls.length:Int) < f.agreed then s.lagging f.frm else s.holding f.frm f.agreed
def LK.begun (s:LK) (f:Fr):Did :=
  if s.m.ls.length < f.lines.length then
    (if s.arm=1 then ⟨[],4,s.crash (3 :: 0 :: linesBytes f.lines)⟩ else ({ s.wrote (3 :: 0 :: linesBytes f.lines) ⟨0,0,f.lines⟩ with hs:=fun _=>0 }:LK).holding f.frm f.agreed)
  else s.holding f.frm f.agreed
def LK.beginF (s:LK):Fr:=⟨7,s.me,s.m.view,0,s.agreed,0,Ln.zero,s.m.ls⟩
def LK.heardK (s:LK) (f:Fr):Did :=
  if s.me=0 then (if f.kind=3 then s.held f else ⟨[⟨false,f.frm,packS s.beginF⟩],0,s⟩)
  else if f.kind=2 then s.prepared f else if f.kind=4 then s.beaten f else if f.kind=7 then s.begun f else ⟨[],0,s⟩
def LK.heardF (s:LK) (f:Fr):Did :=
  if f.kind=9 then ⟨[],3,s⟩ else if f.kind=1 then s.say f.line else if f.frm=s.me∨s.kp≤f.frm then ⟨[],3,s⟩
  else if (f.kind=2∨f.kind=4∨f.kind=7)∧f.frm≠0 then ⟨[],3,s⟩ else s.heardK f
def LK.heard (s:LK) (b:List UInt8):Did:=if s.dead then ⟨[],5,s⟩ else match unpackR b with
  | none=>⟨[],3,s⟩
  | some f=>s.heardF f
def LK.reminder (s:LK) (t:Int):Fr:=if s.hs t.toNat < s.m.ls.length then ⟨2,s.me,s.m.view,s.hs t.toNat+1,s.agreed,0,s.m.ls.getD (s.hs t.toNat).toNat Ln.zero,[]⟩ else ⟨4,s.me,s.m.view,0,s.agreed,0,Ln.zero,[]⟩
def LK.tick (s:LK):Did:=if s.dead then ⟨[],5,s⟩ else ⟨(othersL s.me s.kp.toNat).map fun t=>⟨false,t,packS (s.reminder t)⟩,0,s⟩
def LK.armed (s:LK) (n:Int):LK:={ s with arm:=max n 0 }
structure IvL (s:LK):Prop where
  conf:ConfOk s.kp s.me s.pa
  v0:s.m.view=0∧s.m.last=0
  rd:readD s.d=(s.m,s.d.length)
  len:s.d.length≤9000000+300 * s.m.ls.length
  lok:linesOk s.m.ls=true
  ag:s.agreed≤s.m.ls.length
  hs:∀ j,0≤s.hs j∧s.hs j≤s.m.ls.length
  few:heldFew s.hs s.me s.kp.toNat≤s.agreed
  arm:0≤s.arm∧s.arm≤9223372036854775807
  lost:s.lost=[]∨∃ inner m',s.lost=recBytes inner∧inner.length≤250∧doesM s.m inner=some m'∧m'.view=0∧m'.last=0∧s.m.ls.length < m'.ls.length
theorem IvL.l20 {s:LK} (h:IvL s):s.m.ls.length≤20:=(linesOk_all h.lok).1
theorem IvL.ok {s:LK} (h:IvL s):s.ok:=by
  have:=h.len
  have:=h.l20
  refine ⟨?_,h.conf,h.ag,h.l20⟩
  rcases h.lost with e | ⟨inner,m',e,hi,_⟩
  · rw [e];simp;omega
  · rw [e,recBytes_len];omega
theorem readF_okM {s:List UInt8}:∀ (f:Nat) (m:Mm) (at_:Nat),(m.last≤m.view∧0≤m.last∧linesOk m.ls=true)→((readF s f m at_).1.last≤(readF s f m at_).1.view∧0≤(readF s f m at_).1.last∧linesOk (readF s f m at_).1.ls=true):=by
  intro f
  induction f with
  | zero=>intro m at_ h;exact h
  | succ f ih =>
    intro m at_ h
    unfold readF
    split
    · exact h
    · split
      · exact h
      · rename_i m' hm
        refine ih _ _ ?_
        have ho:=doesM_ok hm
        unfold okM at ho
        simp only [Bool.and_eq_true,decide_eq_true_eq] at ho
        refine ⟨ho.1.1,?_,ho.2⟩
        unfold doesM at hm
        cases e:candM m _ with
        | none=>rw [e] at hm;cases hm
        | some n =>
          rw [e] at hm
          simp only [Option.bind_some] at hm
          split at hm
          · cases hm
            unfold candM at e
            repeat' split at e
            all_goals first | cases e | skip
            all_goals first | exact h.2.1 | exact Int.natCast_nonneg _
          · cases hm
theorem readD_okM (l:List UInt8) (h:(readD l).1.view=0):(readD l).1.last=0∧linesOk (readD l).1.ls=true:=by
  have:=readF_okM (s:=l) (l.length+1) Mm.zero 0 ⟨by decide,by decide,by decide⟩
  have e:readF l (l.length+1) Mm.zero 0=readD l:=rfl
  rw [e] at this
  exact ⟨by omega,this.2.2⟩
theorem heldFew_zero (me:Int) (n:Nat) (h:n=3∨n=5) (hm:0≤me∧me < n):heldFew (fun _=>0) me n=0:=by
  unfold heldFew
  rcases h with rfl | rfl
  · have:me=0∨me=1∨me=2:=by omega
    rcases this with rfl | rfl | rfl <;> decide
  · have:me=0∨me=1∨me=2∨me=3∨me=4:=by omega
    rcases this with rfl | rfl | rfl | rfl | rfl <;> decide
theorem ConfOk.nat {kp me pa:Int} (h:ConfOk kp me pa):(kp.toNat=3∨kp.toNat=5)∧(kp.toNat:Int)=kp:=by
  rcases h.1 with h | h <;> omega
theorem IvL.made (kp me pa:Int) (l:List UInt8) (hc:ConfOk kp me pa) (hl:l.length≤9000000) (hv:(readD l).1.view=0):IvL (LK.opened kp me pa (l.take (readD l).2) (readD l).1):=by
  obtain ⟨h1,h2⟩:=readD_okM l hv
  refine ⟨hc,⟨hv,h1⟩,readD_take l,?_,h2,Nat.zero_le _,fun j=>⟨Int.le_refl _,Int.natCast_nonneg _⟩,?_,⟨Int.le_refl _,by show (0:Int)≤9223372036854775807;decide⟩,.inl rfl⟩
  · show (l.take (readD l).2).length≤_
    rw [List.length_take];omega
  · show heldFew (fun _=>0) me kp.toNat≤0
    rw [heldFew_zero me _ hc.nat.1 (by have:=hc.2;have:=hc.nat.2;omega)]
    exact Int.le_refl _
theorem IvL.again (s:LK) (keep:Int) (h:IvL s):IvL (LK.opened s.kp s.me s.pa ((s.image keep).take (readD (s.image keep)).2) (readD (s.image keep)).1):=by
  have key:∀ (l:List UInt8) (m:Mm),readD l=(m,l.length)→m.view=0→l.length≤9000000+300 * m.ls.length→IvL (LK.opened s.kp s.me s.pa (l.take (readD l).2) (readD l).1):=by
    intro l m hr hv hl
    obtain ⟨h1,h2⟩:=readD_okM l (by rw [hr];exact hv)
    refine ⟨h.conf,⟨by rw [hr];exact hv,h1⟩,readD_take l,?_,h2,Nat.zero_le _,fun j=>⟨Int.le_refl _,Int.natCast_nonneg _⟩,?_,⟨Int.le_refl _,by show (0:Int)≤9223372036854775807;decide⟩,.inl rfl⟩
    · show (l.take (readD l).2).length≤9000000+300 * (readD l).1.ls.length
      rw [List.length_take,hr];dsimp only;omega
    · show heldFew (fun _=>0) s.me s.kp.toNat≤0
      rw [heldFew_zero s.me _ h.conf.nat.1 (by have:=h.conf.2;have:=h.conf.nat.2;omega)]
      exact Int.le_refl _
  unfold LK.image
  rcases h.lost with e | ⟨inner,m',e,hi,hd,hv,_,hn⟩
  · rw [e,List.take_nil,List.append_nil]
    exact key _ _ h.rd h.v0.1 h.len
  · rw [e]
    rcases Nat.lt_or_ge keep.toNat (recBytes inner).length with hk | hk
    · have hr:=readD_part h.rd inner (by omega) keep.toNat hk
      have hrl:(s.d++(recBytes inner).take keep.toNat).take (readD (s.d++(recBytes inner).take keep.toNat)).2=s.d:=by rw [hr];dsimp only;rw [List.take_left]
      rw [hrl,hr]
      have:=key _ _ h.rd h.v0.1 h.len
      rw [h.rd] at this
      dsimp only at this
      rw [List.take_of_length_le (Nat.le_refl _)] at this
      exact this
    · rw [List.take_of_length_le hk]
      refine key _ m' (readD_rec h.rd inner (by omega) hd) hv ?_
      have:=h.len
      rw [List.length_append,recBytes_len];omega
end
end Go.Proofs.YtolififimldmlaaGreat
