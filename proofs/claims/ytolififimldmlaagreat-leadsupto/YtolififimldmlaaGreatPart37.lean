import Derived.Test.YtolififimldmlaaGreatPart35
import Derived.Test.YtolififimldmlaaGreatPart34
set_option linter.unusedVariables false
set_option linter.unusedSimpArgs false
set_option maxRecDepth 100000
set_option maxHeartbeats 16000000
namespace Go.Proofs.YtolififimldmlaaGreat
section
open Go.RowKit
attribute [local go_sem ↓] Go.wp_at_zero Go.wp_at_succ
def cntO (hs:Nat→Int) (me a:Int):Nat→Nat
  | 0=>0
  | k+1=>cntO hs me a k+if (k:Int)≠me∧a < hs k then 1 else 0
theorem cntO_le (hs:Nat→Int) (me a:Int):∀ k,cntO hs me a k≤k:=by
  intro k
  induction k with
  | zero=>exact Nat.le_refl _
  | succ k ih=>unfold cntO;split <;> omega
theorem RV.At.setHold {v:RV} {w:World} {B:Nat} (h:v.At w B) (t:Nat) (ht:t < 5) (x:Int):RChg w (w.setCell ⟨B,11+t,none⟩ (.int .i64 x)) B v { v with hs:=holdsSet v.hs t x }:=by
  refine h.cellChg ?_ ⟨rfl,rfl,rfl,rfl,rfl,rfl⟩
  have h5:t=0∨t=1∨t=2∨t=3∨t=4:=by omega
  rcases h5 with rfl | rfl | rfl | rfl | rfl
  all_goals
    unfold RV.cells holdsSet
    simp
theorem RV.At.holdCell {v:RV} {w:World} {B:Nat} (h:v.At w B) (t:Nat) (ht:t < 5):w.cell? ⟨B,11+t,none⟩=some (.int .i64 (v.hs t)):=by
  have h5:t=0∨t=1∨t=2∨t=3∨t=4:=by omega
  rcases h5 with rfl | rfl | rfl | rfl | rfl
  · exact cell_of_heap h.blk 11
  · exact cell_of_heap h.blk 12
  · exact cell_of_heap h.blk 13
  · exact cell_of_heap h.blk 14
  · exact cell_of_heap h.blk 15
def agOf (w:World) (B:Nat):Nat:=match w.cell? ⟨B,10,none⟩ with
  | some (.int _ k)=>k.toNat
  | _=>0
section
variable (v:RV) (B:Nat) (w:World) (h:v.At w B)
include h
theorem refHeldNo (hl:v.Lead) (view agreed last lc lt:Int) (s:List UInt8) (a:Option Addr) (fl cap t p:Nat) (hp:v.m.ls.length < p) :
    Calls Tryz.prog 154 #[.pointer (some ⟨B,0,none⟩),.agg #[.int .i64 3,.int .i64 t,.int .i64 view,.int .i64 p,.int .i64 agreed,.int .i64 last,.int .i64 lc,.int .i64 lt,.string ⟨s.toArray⟩,.slice a fl cap]] w fun e w'=>e=.returned (.tuple #[])∧RChg w w' B v v:=by
  have HV:=hid h
  have HB:=hid ((Below.refl _ w).alloc (Nat.le_refl _) (.cells #[.int .i64 3,.int .i64 t,.int .i64 view,.int .i64 p,.int .i64 agreed,.int .i64 last,.int .i64 lc,.int .i64 lt,.string ⟨s.toArray⟩,.slice a fl cap] 30))
  have HQ:=hid (heap_alloc_new w (.cells #[.int .i64 3,.int .i64 t,.int .i64 view,.int .i64 p,.int .i64 agreed,.int .i64 last,.int .i64 lc,.int .i64 lt,.string ⟨s.toArray⟩,.slice a fl cap] 30))
  have h1:(v.m.ls.length:Int) < (p:Int):=by omega
  have HA:=hid (h.below HB.out)
  clear h hl
  go_enter Tryz.func154,Tryz.ntmps154
  go_wp2
  generalize w.alloc (.cells #[.int .i64 3,.int .i64 t,.int .i64 view,.int .i64 p,.int .i64 agreed,.int .i64 last,.int .i64 lc,.int .i64 lt,.string ⟨s.toArray⟩,.slice a fl cap] 30)=X at *
  have x9:X.cell? ⟨B,9,none⟩=some (.slice (v.g.map fun k=>⟨k,0,none⟩) v.m.ls.length v.c):=cell_of_heap HA.out.blk 9
  obtain ⟨r0,r1,r2,r3,r4,r5,r6,r7,r8,r9⟩:=box_cells HQ.out
  go_still_tail 8,(by kernel_rfl)
  go_wp2
  refine bodyPost_ret (v:=.tuple #[]) ?_ rfl ⟨rfl,RChg.same HV.out HB.out.drew⟩
  simp [results,Tryz.results154]
theorem refHeld (Q:Ending→World→Prop) (hl:v.Lead) (view agreed last lc lt:Int) (s:List UInt8) (a:Option Addr) (fl cap t p n F:Nat) (hkn:v.kp=n) (ht:t < 5) (hp:p≤v.m.ls.length) (hs':Nat→Int) (hhs:hs'=holdsSet v.hs t (max (v.hs t) p))
    (hF:F≤v.m.ls.length) (hcnt:∀ x:Nat,n / 2≤cntO hs' v.me x n↔x < F)
    (H:∀ y g c,RChg w y B v (({ v with hs:=hs',ag:=max v.ag F }:RV).pushAll (toldL v.m v.ag (max v.ag F - v.ag)) g c)→Q (.returned (.tuple #[])) y) :
    Calls Tryz.prog 154 #[.pointer (some ⟨B,0,none⟩),.agg #[.int .i64 3,.int .i64 t,.int .i64 view,.int .i64 p,.int .i64 agreed,.int .i64 last,.int .i64 lc,.int .i64 lt,.string ⟨s.toArray⟩,.slice a fl cap]] w Q:=by
  have HV:=hid h
  have HB:=hid ((Below.refl _ w).alloc (Nat.le_refl _) (.cells #[.int .i64 3,.int .i64 t,.int .i64 view,.int .i64 p,.int .i64 agreed,.int .i64 last,.int .i64 lc,.int .i64 lt,.string ⟨s.toArray⟩,.slice a fl cap] 30))
  have HQ:=hid (heap_alloc_new w (.cells #[.int .i64 3,.int .i64 t,.int .i64 view,.int .i64 p,.int .i64 agreed,.int .i64 last,.int .i64 lc,.int .i64 lt,.string ⟨s.toArray⟩,.slice a fl cap] 30))
  have h1:¬ (v.m.ls.length:Int) < (p:Int):=by omega
  have HA:=hid (h.below HB.out)
  have HL:=hid hl
  have G:=hid H
  have HCN:=hid hcnt
  have HKN:=hid hkn
  have HS:=hid hhs
  have h20:=hl.l20
  clear h hl H hcnt hkn hhs
  go_enter Tryz.func154,Tryz.ntmps154
  go_wp2
  generalize w.alloc (.cells #[.int .i64 3,.int .i64 t,.int .i64 view,.int .i64 p,.int .i64 agreed,.int .i64 last,.int .i64 lc,.int .i64 lt,.string ⟨s.toArray⟩,.slice a fl cap] 30)=X at *
  have x9:X.cell? ⟨B,9,none⟩=some (.slice (v.g.map fun k=>⟨k,0,none⟩) v.m.ls.length v.c):=cell_of_heap HA.out.blk 9
  obtain ⟨r0,r1,r2,r3,r4,r5,r6,r7,r8,r9⟩:=box_cells HQ.out
  go_still_tail 8,(by kernel_rfl)
  go_wp2
  have HBY:=hid HB.out.drew
  have HQY:=hid (Box.drew HQ.out)
  clear HB HQ HA r0 r1 r2 r3 r4 r5 r6 r7 r8 r9 x9
  generalize X.drew=Y at *
  have HAY:=hid (HV.out.below HBY.out)
  obtain ⟨r0,r1,r2,r3,r4,r5,r6,r7,r8,r9⟩:=box_cells HQY.out
  have xh:Y.cell? ⟨B,11+t,none⟩=some (.int .i64 (v.hs t)):=HAY.out.holdCell t ht
  have b0:(0:Int)≤(t:Int):=by omega
  have b1:(t:Int) < 5:=by omega
  by_cases hgt:v.hs t < p
  · have hgt':v.hs t < (p:Int):=hgt
    go_still_tail 9,(by kernel_rfl)
    go_wp2
    have HAZ:=hid (HAY.out.below ((Below.refl _ Y).drew))
    have HBZ:=hid HBY.out.drew
    have HQZ:=hid (Box.drew HQY.out)
    clear HAY HBY HQY r0 r1 r2 r3 r4 r5 r6 r7 r8 r9 xh
    generalize Y.drew=Z at *
    obtain ⟨r0,r1,r2,r3,r4,r5,r6,r7,r8,r9⟩:=box_cells HQZ.out
    have xh:Z.cell? ⟨B,11+t,none⟩=some (.int .i64 (v.hs t)):=HAZ.out.holdCell t ht
    have fh:Z.frozen? ⟨B,11+t,none⟩=false:=frozen_of_heap HAZ.out.blk _
    have HSH:=hid ((RChg.of HBZ.out HV.out (HAZ.out.setHold t ht p)).below ((Below.refl _ _).drew))
    have hmx:Hid (hs'=holdsSet v.hs t p):=by show _=_;rw [HS.out,show max (v.hs t) (p:Int)=p from by omega]
    rw [← hmx.out] at HSH
    go_still_tail 8,(by kernel_rfl)
    go_wp2
    clear r0 r1 r2 r3 r4 r5 r6 r7 r8 r9 xh fh HAZ HBZ HQZ
    have HZ:Hid (RChg w (Z.setCell ⟨B,11+t,none⟩ (.int .i64 p)).drew B v (({ v with hs:=hs',ag:=v.ag+0 }:RV).pushAll [] v.sg v.sc)):=by
      have:(({ v with hs:=hs',ag:=v.ag+0 }:RV).pushAll [] v.sg v.sc)={ v with hs:=hs' }:=by unfold RV.pushAll;rw [List.append_nil];rfl
      show RChg _ _ _ _ _
      rw [this];exact HSH.out
    clear HSH
    go_loopw [4] (fun _ wr=>∃ (j:Nat) (g:Option Nat) (c:Nat),v.ag+j≤max v.ag F∧Hid (RChg w wr B v (({ v with hs:=hs',ag:=v.ag+j }:RV).pushAll (toldL v.m v.ag j) g c))) (fun _ wr=>v.m.ls.length - agOf wr B)
    case atStart=>exact ⟨0,v.sg,v.sc,by omega,by show RChg _ _ _ _ _;rw [show toldL v.m v.ag 0=[] from rfl];exact HZ.out⟩
    case round =>
      obtain ⟨j,g,c,hj,HR⟩:=hrel
      have HU:=hid HR.out.at_
      have c9:wr.cell? ⟨B,9,none⟩=some (.slice (v.g.map fun k=>⟨k,0,none⟩) v.m.ls.length v.c):=cell_of_heap HU.out.blk 9
      have c10:wr.cell? ⟨B,10,none⟩=some (.int .i64 (v.ag+j:Nat)):=cell_of_heap HU.out.blk 10
      have hag:=HL.out.ag
      by_cases hlt:v.ag+j < v.m.ls.length
      · have b1:((v.ag+j:Nat):Int) < (v.m.ls.length:Int):=by omega
        have HAO:Hid (agOf wr B=v.ag+j):=by show _=_;unfold agOf;rw [c10];rfl
        generalize hA:v.ag+j=A at *
        have HHA:=hid hA
        clear hA
        go_wp2
        go_still_tail 10,(by kernel_rfl)
        go_wp2
        have HR1:=hid (HR.out.below ((Below.refl _ wr).drew))
        clear c9 c10 HU
        generalize wr.drew=Y1 at *
        go_loopw [4,5] (fun nn ii wq=>∃ k:Nat,k≤n∧ii=.int .i64 k∧nn=.int .i64 (cntO hs' v.me A k:Nat)∧Hid (RChg w wq B v (({ v with hs:=hs',ag:=A }:RV).pushAll (toldL v.m v.ag j) g c))) (fun _ ii _=>n - (intOf ii).toNat)
        case atStart=>exact ⟨0,Nat.zero_le _,rfl,rfl,HR1.out⟩
        case round =>
          obtain ⟨k,hk,rfl,rfl,HR2⟩:=hrel
          have HU2:=hid HR2.out.at_
          have d0:wr.cell? ⟨B,0,none⟩=some (.int .i64 n):=by rw [← HKN.out];exact cell_of_heap HU2.out.blk 0
          have d1:wr.cell? ⟨B,1,none⟩=some (.int .i64 v.me):=cell_of_heap HU2.out.blk 1
          have d10:wr.cell? ⟨B,10,none⟩=some (.int .i64 A):=cell_of_heap HU2.out.blk 10
          have hcl:=cntO_le hs' v.me A k
          have hn5:n≤5:=by have:=HL.out.kp;have:=HKN.out;omega
          by_cases hkn:k < n
          · have bk:(k:Int) < (n:Int):=by omega
            have dh:wr.cell? ⟨B,11+k,none⟩=some (.int .i64 (hs' k)):=HU2.out.holdCell k (by omega)
            have bk0:(0:Int)≤(k:Int):=by omega
            have bk5:(k:Int) < 5:=by omega
            have HSU:Hid (cntO hs' v.me A (k+1)=cntO hs' v.me A k+if (k:Int)≠v.me∧(A:Int) < hs' k then 1 else 0):=rfl
            generalize cntO hs' v.me A k=cn at *
            by_cases hme:(k:Int)=v.me
            · have bm:((k:Int)=v.me)↔True:=iff_true_intro hme
              have HSV:Hid (cntO hs' v.me A (k+1)=cn):=by show _=_;rw [HSU.out,if_neg (by simp [hme])];rfl
              have HME:=hid hme
              clear hme
              go_wp2
              go_still_tail 19,(by kernel_rfl)
              go_wp2
              go_roundw
              case rel =>
                first
                | exact ⟨k+1,by omega,by go_num,by rw [HSV.out],HR2.out.below ((Below.refl _ wr).drew)⟩
                | ((repeat apply Exists.intro);refine ⟨?_,rfl⟩;exact ⟨k+1,by omega,by go_num,by rw [HSV.out],HR2.out.below ((Below.refl _ wr).drew)⟩)
              case measure=>simp [intOf];omega
            · have bm:((k:Int) != v.me)=true:=by simp [hme]
              by_cases hov:(A:Int) < hs' k
              · have HSV:Hid (cntO hs' v.me A (k+1)=cn+1):=by show _=_;rw [HSU.out,if_pos ⟨hme,hov⟩]
                have HME:=hid hme
                clear hme
                go_wp2
                go_still_tail 19,(by kernel_rfl)
                go_wp2
                go_roundw
                case rel =>
                  first
                  | exact ⟨k+1,by omega,by go_num,by rw [HSV.out];go_num,HR2.out.below ((Below.refl _ wr).drew)⟩
                  | ((repeat apply Exists.intro);refine ⟨?_,rfl⟩;exact ⟨k+1,by omega,by go_num,by rw [HSV.out];go_num,HR2.out.below ((Below.refl _ wr).drew)⟩)
                case measure=>simp [intOf];omega
              · have HSV:Hid (cntO hs' v.me A (k+1)=cn):=by show _=_;rw [HSU.out,if_neg (fun e=>hov e.2)];rfl
                have HME:=hid hme
                clear hme
                go_wp2
                go_still_tail 19,(by kernel_rfl)
                go_wp2
                go_roundw
                case rel =>
                  first
                  | exact ⟨k+1,by omega,by go_num,by rw [HSV.out],HR2.out.below ((Below.refl _ wr).drew)⟩
                  | ((repeat apply Exists.intro);refine ⟨?_,rfl⟩;exact ⟨k+1,by omega,by go_num,by rw [HSV.out],HR2.out.below ((Below.refl _ wr).drew)⟩)
                case measure=>simp [intOf];omega
          · have hkk:k=n:=by omega
            subst hkk
            have HFW:=hid (refFew _ B wr HU2.out HL.out.kp)
            have HFW2:Hid (Calls Tryz.prog 180 #[.pointer (some ⟨B,0,none⟩)] wr fun e w'=>e=.returned (.int .i64 (k / 2:Nat))∧Below wr.heap.size wr w'):=HFW.out.mono (fun e w' hh=>⟨by rw [hh.1];show Ending.returned (.int .i64 (v.kp / 2))=_;rw [HKN.out];rfl,hh.2⟩)
            clear HFW
            have hcf:=HCN.out A
            by_cases hcc:k / 2≤cntO hs' v.me A k
            · have hAF:A < F:=hcf.1 hcc
              have bcc:¬ ((cntO hs' v.me A k:Nat):Int) < ((k / 2:Nat):Int):=by omega
              have hto:Hid (toldL v.m v.ag (j+1)=toldL v.m v.ag j++[⟨true,(v.m.ls[A]'(by omega)).c,packS ⟨9,0,v.m.view,(A+1:Nat),0,0,⟨(v.m.ls[A]'(by omega)).c,(v.m.ls[A]'(by omega)).t,[]⟩,[]⟩⟩]):=by
                show _=_
                rw [toldL_succ,HHA.out,getD_at v.m.ls A Ln.zero (by omega)]
              generalize cntO hs' v.me A k=cn at *
              generalize k / 2=fw at *
              go_wp2_with fail
              refine HFW2.out.mono ?_
              rintro e Y2 ⟨rfl,hb2⟩
              have HR3:=hid (HR2.out.below hb2)
              clear hb2 d0 d1 d10
              have e9:Y2.cell? ⟨B,9,none⟩=some (.slice (v.g.map fun k=>⟨k,0,none⟩) v.m.ls.length v.c):=cell_of_heap HR3.out.at_.blk 9
              have e10:Y2.cell? ⟨B,10,none⟩=some (.int .i64 A):=cell_of_heap HR3.out.at_.blk 10
              have f10:Y2.frozen? ⟨B,10,none⟩=false:=frozen_of_heap HR3.out.at_.blk 10
              have HIN:Hid (RChg w (Y2.setCell ⟨B,10,none⟩ (.int .i64 ((A:Int)+1))) B v (({ v with hs:=hs',ag:=A+1 }:RV).pushAll (toldL v.m v.ag j) g c)):=HR3.out.trans (HR3.out.at_.cellChg (by unfold RV.cells RV.pushAll;simp only [List.setIfInBounds_toArray,List.set_cons_zero,List.set_cons_succ];rfl) ⟨rfl,rfl,rfl,rfl,rfl,rfl⟩)
              have HTL:=hid (refTell _ B _ HIN.out.at_ A (by show A < v.m.ls.length;omega) (by show v.m.ls.length≤1000;omega) (v.m.ls[A]'(by omega)) rfl (by show (v.os++toldL v.m v.ag j).length≤1000;rw [HL.out.os,List.nil_append,toldL_len];have:=HHA.out;omega) _ rfl)
              unfold SentRet at HTL
              have w1:IntKind.i64.wrap ((A:Int)+1)=(A:Int)+1:=by rw [IntWalk.i64_left,IntWalk.wrap64_in _ (by omega)]
              go_wp2_with fail
              refine HTL.out.mono ?_
              rintro e Y3 ⟨rfl,g2,c2,hch⟩
              have HR4:=hid (HIN.out.trans hch)
              rw [RV.pushAll_push] at HR4
              have HAO2:Hid (agOf Y3 B=A+1):=by
                have:Y3.cell? ⟨B,10,none⟩=some (.int .i64 (A+1:Nat)):=cell_of_heap hch.at_.blk 10
                show _=_
                unfold agOf;rw [this];rfl
              clear hch
              go_wp2
              go_roundw
              case rel =>
                first
                | exact ⟨j+1,some g2,c2,by have:=HHA.out;omega,by rw [hto.out,show v.ag+(j+1)=A+1 from by have:=HHA.out;omega];exact HR4.out⟩
                | ((repeat apply Exists.intro);refine ⟨?_,rfl⟩;exact ⟨j+1,some g2,c2,by have:=HHA.out;omega,by rw [hto.out,show v.ag+(j+1)=A+1 from by have:=HHA.out;omega];exact HR4.out⟩)
              case measure=>rw [HAO2.out,HAO.out];omega
            · have hAF:F≤A:=by
                rcases Nat.lt_or_ge A F with q | q
                · exact absurd (hcf.2 q) hcc
                · exact q
              have bcc:((cntO hs' v.me A k:Nat):Int) < ((k / 2:Nat):Int):=by omega
              generalize cntO hs' v.me A k=cn at *
              generalize k / 2=fw at *
              go_wp2_with fail
              refine HFW2.out.mono ?_
              rintro e Y2 ⟨rfl,hb2⟩
              have HR3:=hid (HR2.out.below hb2)
              clear hb2 d0 d1 d10
              go_wp2
              refine bodyPost_ret (v:=.tuple #[]) ?_ rfl (G.out _ g c ?_)
              · simp [results,Tryz.results154]
              · have e1:max v.ag F=A:=by have:=HHA.out;omega
                have e2:max v.ag F - v.ag=j:=by have:=HHA.out;omega
                rw [e2,e1];exact HR3.out
      · have e1:max v.ag F=v.ag+j:=by omega
        have e2:max v.ag F - v.ag=j:=by omega
        have b1:¬ ((v.ag+j:Nat):Int) < (v.m.ls.length:Int):=by omega
        have HFIN:Hid (∀ y,RChg w y B v (({ v with hs:=hs',ag:=v.ag+j }:RV).pushAll (toldL v.m v.ag j) g c)→Q (.returned (.tuple #[])) y):=fun y hy=>G.out y g c (by rw [e2,e1];exact hy)
        generalize hA:v.ag+j=A at *
        clear hA e1 e2
        go_wp2
        go_still_tail 10,(by kernel_rfl)
        go_wp2
        go_end0
        exact HFIN.out _ (HR.out.below ((Below.refl _ wr).drew))
  · have hgt':¬ v.hs t < (p:Int):=hgt
    go_still_tail 9,(by kernel_rfl)
    go_wp2
    have hmx:Hid (hs'=v.hs):=by
      show _=_
      rw [HS.out,show max (v.hs t) (p:Int)=v.hs t from by omega]
      funext i
      unfold holdsSet
      split
      · rename_i e;rw [e]
      · rfl
    have HZ:Hid (RChg w Y.drew B v (({ v with hs:=hs',ag:=v.ag+0 }:RV).pushAll [] v.sg v.sc)):=by
      have:(({ v with hs:=hs',ag:=v.ag+0 }:RV).pushAll [] v.sg v.sc)=v:=by unfold RV.pushAll;rw [List.append_nil,hmx.out];rfl
      show RChg _ _ _ _ _
      rw [this];exact RChg.same HV.out HBY.out.drew
    clear r0 r1 r2 r3 r4 r5 r6 r7 r8 r9 xh HAY HBY HQY
    go_loopw [4] (fun _ wr=>∃ (j:Nat) (g:Option Nat) (c:Nat),v.ag+j≤max v.ag F∧Hid (RChg w wr B v (({ v with hs:=hs',ag:=v.ag+j }:RV).pushAll (toldL v.m v.ag j) g c))) (fun _ wr=>v.m.ls.length - agOf wr B)
    case atStart=>exact ⟨0,v.sg,v.sc,by omega,by show RChg _ _ _ _ _;rw [show toldL v.m v.ag 0=[] from rfl];exact HZ.out⟩
    case round =>
      obtain ⟨j,g,c,hj,HR⟩:=hrel
      have HU:=hid HR.out.at_
      have c9:wr.cell? ⟨B,9,none⟩=some (.slice (v.g.map fun k=>⟨k,0,none⟩) v.m.ls.length v.c):=cell_of_heap HU.out.blk 9
      have c10:wr.cell? ⟨B,10,none⟩=some (.int .i64 (v.ag+j:Nat)):=cell_of_heap HU.out.blk 10
      have hag:=HL.out.ag
      by_cases hlt:v.ag+j < v.m.ls.length
      · have b1:((v.ag+j:Nat):Int) < (v.m.ls.length:Int):=by omega
        have HAO:Hid (agOf wr B=v.ag+j):=by show _=_;unfold agOf;rw [c10];rfl
        generalize hA:v.ag+j=A at *
        have HHA:=hid hA
        clear hA
        go_wp2
        go_still_tail 10,(by kernel_rfl)
        go_wp2
        have HR1:=hid (HR.out.below ((Below.refl _ wr).drew))
        clear c9 c10 HU
        generalize wr.drew=Y1 at *
        go_loopw [4,5] (fun nn ii wq=>∃ k:Nat,k≤n∧ii=.int .i64 k∧nn=.int .i64 (cntO hs' v.me A k:Nat)∧Hid (RChg w wq B v (({ v with hs:=hs',ag:=A }:RV).pushAll (toldL v.m v.ag j) g c))) (fun _ ii _=>n - (intOf ii).toNat)
        case atStart=>exact ⟨0,Nat.zero_le _,rfl,rfl,HR1.out⟩
        case round =>
          obtain ⟨k,hk,rfl,rfl,HR2⟩:=hrel
          have HU2:=hid HR2.out.at_
          have d0:wr.cell? ⟨B,0,none⟩=some (.int .i64 n):=by rw [← HKN.out];exact cell_of_heap HU2.out.blk 0
          have d1:wr.cell? ⟨B,1,none⟩=some (.int .i64 v.me):=cell_of_heap HU2.out.blk 1
          have d10:wr.cell? ⟨B,10,none⟩=some (.int .i64 A):=cell_of_heap HU2.out.blk 10
          have hcl:=cntO_le hs' v.me A k
          have hn5:n≤5:=by have:=HL.out.kp;have:=HKN.out;omega
          by_cases hkn:k < n
          · have bk:(k:Int) < (n:Int):=by omega
            have dh:wr.cell? ⟨B,11+k,none⟩=some (.int .i64 (hs' k)):=HU2.out.holdCell k (by omega)
            have bk0:(0:Int)≤(k:Int):=by omega
            have bk5:(k:Int) < 5:=by omega
            have HSU:Hid (cntO hs' v.me A (k+1)=cntO hs' v.me A k+if (k:Int)≠v.me∧(A:Int) < hs' k then 1 else 0):=rfl
            generalize cntO hs' v.me A k=cn at *
            by_cases hme:(k:Int)=v.me
            · have bm:((k:Int)=v.me)↔True:=iff_true_intro hme
              have HSV:Hid (cntO hs' v.me A (k+1)=cn):=by show _=_;rw [HSU.out,if_neg (by simp [hme])];rfl
              have HME:=hid hme
              clear hme
              go_wp2
              go_still_tail 19,(by kernel_rfl)
              go_wp2
              go_roundw
              case rel =>
                first
                | exact ⟨k+1,by omega,by go_num,by rw [HSV.out],HR2.out.below ((Below.refl _ wr).drew)⟩
                | ((repeat apply Exists.intro);refine ⟨?_,rfl⟩;exact ⟨k+1,by omega,by go_num,by rw [HSV.out],HR2.out.below ((Below.refl _ wr).drew)⟩)
              case measure=>simp [intOf];omega
            · have bm:((k:Int) != v.me)=true:=by simp [hme]
              by_cases hov:(A:Int) < hs' k
              · have HSV:Hid (cntO hs' v.me A (k+1)=cn+1):=by show _=_;rw [HSU.out,if_pos ⟨hme,hov⟩]
                have HME:=hid hme
                clear hme
                go_wp2
                go_still_tail 19,(by kernel_rfl)
                go_wp2
                go_roundw
                case rel =>
                  first
                  | exact ⟨k+1,by omega,by go_num,by rw [HSV.out];go_num,HR2.out.below ((Below.refl _ wr).drew)⟩
                  | ((repeat apply Exists.intro);refine ⟨?_,rfl⟩;exact ⟨k+1,by omega,by go_num,by rw [HSV.out];go_num,HR2.out.below ((Below.refl _ wr).drew)⟩)
                case measure=>simp [intOf];omega
              · have HSV:Hid (cntO hs' v.me A (k+1)=cn):=by show _=_;rw [HSU.out,if_neg (fun e=>hov e.2)];rfl
                have HME:=hid hme
                clear hme
                go_wp2
                go_still_tail 19,(by kernel_rfl)
                go_wp2
                go_roundw
                case rel =>
                  first
                  | exact ⟨k+1,by omega,by go_num,by rw [HSV.out],HR2.out.below ((Below.refl _ wr).drew)⟩
                  | ((repeat apply Exists.intro);refine ⟨?_,rfl⟩;exact ⟨k+1,by omega,by go_num,by rw [HSV.out],HR2.out.below ((Below.refl _ wr).drew)⟩)
                case measure=>simp [intOf];omega
          · have hkk:k=n:=by omega
            subst hkk
            have HFW:=hid (refFew _ B wr HU2.out HL.out.kp)
            have HFW2:Hid (Calls Tryz.prog 180 #[.pointer (some ⟨B,0,none⟩)] wr fun e w'=>e=.returned (.int .i64 (k / 2:Nat))∧Below wr.heap.size wr w'):=HFW.out.mono (fun e w' hh=>⟨by rw [hh.1];show Ending.returned (.int .i64 (v.kp / 2))=_;rw [HKN.out];rfl,hh.2⟩)
            clear HFW
            have hcf:=HCN.out A
            by_cases hcc:k / 2≤cntO hs' v.me A k
            · have hAF:A < F:=hcf.1 hcc
              have bcc:¬ ((cntO hs' v.me A k:Nat):Int) < ((k / 2:Nat):Int):=by omega
              have hto:Hid (toldL v.m v.ag (j+1)=toldL v.m v.ag j++[⟨true,(v.m.ls[A]'(by omega)).c,packS ⟨9,0,v.m.view,(A+1:Nat),0,0,⟨(v.m.ls[A]'(by omega)).c,(v.m.ls[A]'(by omega)).t,[]⟩,[]⟩⟩]):=by
                show _=_
                rw [toldL_succ,HHA.out,getD_at v.m.ls A Ln.zero (by omega)]
              generalize cntO hs' v.me A k=cn at *
              generalize k / 2=fw at *
              go_wp2_with fail
              refine HFW2.out.mono ?_
              rintro e Y2 ⟨rfl,hb2⟩
              have HR3:=hid (HR2.out.below hb2)
              clear hb2 d0 d1 d10
              have e9:Y2.cell? ⟨B,9,none⟩=some (.slice (v.g.map fun k=>⟨k,0,none⟩) v.m.ls.length v.c):=cell_of_heap HR3.out.at_.blk 9
              have e10:Y2.cell? ⟨B,10,none⟩=some (.int .i64 A):=cell_of_heap HR3.out.at_.blk 10
              have f10:Y2.frozen? ⟨B,10,none⟩=false:=frozen_of_heap HR3.out.at_.blk 10
              have HIN:Hid (RChg w (Y2.setCell ⟨B,10,none⟩ (.int .i64 ((A:Int)+1))) B v (({ v with hs:=hs',ag:=A+1 }:RV).pushAll (toldL v.m v.ag j) g c)):=HR3.out.trans (HR3.out.at_.cellChg (by unfold RV.cells RV.pushAll;simp only [List.setIfInBounds_toArray,List.set_cons_zero,List.set_cons_succ];rfl) ⟨rfl,rfl,rfl,rfl,rfl,rfl⟩)
              have HTL:=hid (refTell _ B _ HIN.out.at_ A (by show A < v.m.ls.length;omega) (by show v.m.ls.length≤1000;omega) (v.m.ls[A]'(by omega)) rfl (by show (v.os++toldL v.m v.ag j).length≤1000;rw [HL.out.os,List.nil_append,toldL_len];have:=HHA.out;omega) _ rfl)
              unfold SentRet at HTL
              have w1:IntKind.i64.wrap ((A:Int)+1)=(A:Int)+1:=by rw [IntWalk.i64_left,IntWalk.wrap64_in _ (by omega)]
              go_wp2_with fail
              refine HTL.out.mono ?_
              rintro e Y3 ⟨rfl,g2,c2,hch⟩
              have HR4:=hid (HIN.out.trans hch)
              rw [RV.pushAll_push] at HR4
              have HAO2:Hid (agOf Y3 B=A+1):=by
                have:Y3.cell? ⟨B,10,none⟩=some (.int .i64 (A+1:Nat)):=cell_of_heap hch.at_.blk 10
                show _=_
                unfold agOf;rw [this];rfl
              clear hch
              go_wp2
              go_roundw
              case rel =>
                first
                | exact ⟨j+1,some g2,c2,by have:=HHA.out;omega,by rw [hto.out,show v.ag+(j+1)=A+1 from by have:=HHA.out;omega];exact HR4.out⟩
                | ((repeat apply Exists.intro);refine ⟨?_,rfl⟩;exact ⟨j+1,some g2,c2,by have:=HHA.out;omega,by rw [hto.out,show v.ag+(j+1)=A+1 from by have:=HHA.out;omega];exact HR4.out⟩)
              case measure=>rw [HAO2.out,HAO.out];omega
            · have hAF:F≤A:=by
                rcases Nat.lt_or_ge A F with q | q
                · exact absurd (hcf.2 q) hcc
                · exact q
              have bcc:((cntO hs' v.me A k:Nat):Int) < ((k / 2:Nat):Int):=by omega
              generalize cntO hs' v.me A k=cn at *
              generalize k / 2=fw at *
              go_wp2_with fail
              refine HFW2.out.mono ?_
              rintro e Y2 ⟨rfl,hb2⟩
              have HR3:=hid (HR2.out.below hb2)
              clear hb2 d0 d1 d10
              go_wp2
              refine bodyPost_ret (v:=.tuple #[]) ?_ rfl (G.out _ g c ?_)
              · simp [results,Tryz.results154]
              · have e1:max v.ag F=A:=by have:=HHA.out;omega
                have e2:max v.ag F - v.ag=j:=by have:=HHA.out;omega
                rw [e2,e1];exact HR3.out
      · have e1:max v.ag F=v.ag+j:=by omega
        have e2:max v.ag F - v.ag=j:=by omega
        have b1:¬ ((v.ag+j:Nat):Int) < (v.m.ls.length:Int):=by omega
        have HFIN:Hid (∀ y,RChg w y B v (({ v with hs:=hs',ag:=v.ag+j }:RV).pushAll (toldL v.m v.ag j) g c)→Q (.returned (.tuple #[])) y):=fun y hy=>G.out y g c (by rw [e2,e1];exact hy)
        generalize hA:v.ag+j=A at *
        clear hA e1 e2
        go_wp2
        go_still_tail 10,(by kernel_rfl)
        go_wp2
        go_end0
        exact HFIN.out _ (HR.out.below ((Below.refl _ wr).drew))
end
end
section
theorem cnt3 (hs:Nat→Int) (me x:Int):cntO hs me x 3=(if (0:Int)≠me∧x < hs 0 then 1 else 0)+(if (1:Int)≠me∧x < hs 1 then 1 else 0)+(if (2:Int)≠me∧x < hs 2 then 1 else 0):=by
  have e:cntO hs me x 3=(0+(if ((0:Nat):Int)≠me∧x < hs 0 then 1 else 0))+(if ((1:Nat):Int)≠me∧x < hs 1 then 1 else 0)+(if ((2:Nat):Int)≠me∧x < hs 2 then 1 else 0):=rfl
  rw [e,Nat.zero_add];rfl
theorem cnt5 (hs:Nat→Int) (me x:Int):cntO hs me x 5=(if (0:Int)≠me∧x < hs 0 then 1 else 0)+(if (1:Int)≠me∧x < hs 1 then 1 else 0)+(if (2:Int)≠me∧x < hs 2 then 1 else 0)+(if (3:Int)≠me∧x < hs 3 then 1 else 0)+(if (4:Int)≠me∧x < hs 4 then 1 else 0):=by
  have e:cntO hs me x 5=(0+(if ((0:Nat):Int)≠me∧x < hs 0 then 1 else 0))+(if ((1:Nat):Int)≠me∧x < hs 1 then 1 else 0)+(if ((2:Nat):Int)≠me∧x < hs 2 then 1 else 0)+(if ((3:Nat):Int)≠me∧x < hs 3 then 1 else 0)+(if ((4:Nat):Int)≠me∧x < hs 4 then 1 else 0):=rfl
  rw [e,Nat.zero_add];rfl
theorem heldFew_iff (hs:Nat→Int) (me:Int) (n:Nat) (h:n=3∨n=5) (hm:0≤me∧me < n) (x:Int):n / 2≤cntO hs me x n↔x < heldFew hs me n:=by
  unfold heldFew
  rcases h with rfl | rfl
  · rw [cnt3]
    have:me=0∨me=1∨me=2:=by omega
    rcases this with rfl | rfl | rfl
    · rw [show othersL 0 3=[1,2] from by decide,show ([1,2]:List Int).map (fun t=>hs t.toNat)=[hs 1,hs 2] from rfl]
      refine Iff.trans ?_ (few2 (hs 1) (hs 2) x)
      simp
    · rw [show othersL 1 3=[0,2] from by decide,show ([0,2]:List Int).map (fun t=>hs t.toNat)=[hs 0,hs 2] from rfl]
      refine Iff.trans ?_ (few2 (hs 0) (hs 2) x)
      simp
    · rw [show othersL 2 3=[0,1] from by decide,show ([0,1]:List Int).map (fun t=>hs t.toNat)=[hs 0,hs 1] from rfl]
      refine Iff.trans ?_ (few2 (hs 0) (hs 1) x)
      simp
  · rw [cnt5]
    have:me=0∨me=1∨me=2∨me=3∨me=4:=by omega
    rcases this with rfl | rfl | rfl | rfl | rfl
    · rw [show othersL 0 5=[1,2,3,4] from by decide,show ([1,2,3,4]:List Int).map (fun t=>hs t.toNat)=[hs 1,hs 2,hs 3,hs 4] from rfl]
      refine Iff.trans ?_ (few4 (hs 1) (hs 2) (hs 3) (hs 4) x)
      simp
    · rw [show othersL 1 5=[0,2,3,4] from by decide,show ([0,2,3,4]:List Int).map (fun t=>hs t.toNat)=[hs 0,hs 2,hs 3,hs 4] from rfl]
      refine Iff.trans ?_ (few4 (hs 0) (hs 2) (hs 3) (hs 4) x)
      simp
    · rw [show othersL 2 5=[0,1,3,4] from by decide,show ([0,1,3,4]:List Int).map (fun t=>hs t.toNat)=[hs 0,hs 1,hs 3,hs 4] from rfl]
      refine Iff.trans ?_ (few4 (hs 0) (hs 1) (hs 3) (hs 4) x)
      simp
    · rw [show othersL 3 5=[0,1,2,4] from by decide,show ([0,1,2,4]:List Int).map (fun t=>hs t.toNat)=[hs 0,hs 1,hs 2,hs 4] from rfl]
      refine Iff.trans ?_ (few4 (hs 0) (hs 1) (hs 2) (hs 4) x)
      simp
    · rw [show othersL 4 5=[0,1,2,3] from by decide,show ([0,1,2,3]:List Int).map (fun t=>hs t.toNat)=[hs 0,hs 1,hs 2,hs 3] from rfl]
      refine Iff.trans ?_ (few4 (hs 0) (hs 1) (hs 2) (hs 3) x)
      simp
theorem cntO_none (hs:Nat→Int) (me x:Int) (h:∀ j,hs j≤x):∀ n,cntO hs me x n=0
  | 0=>rfl
  | n+1=>by
    unfold cntO
    rw [cntO_none hs me x h n,if_neg (fun e=>by have:=h n;omega)]
theorem heldFew_le (hs:Nat→Int) (me:Int) (n:Nat) (h:n=3∨n=5) (hm:0≤me∧me < n) (x:Int) (hx:∀ j,hs j≤x):heldFew hs me n≤x:=by
  have:=heldFew_iff hs me n h hm x
  rw [cntO_none hs me x hx n] at this
  rcases Int.lt_or_le x (heldFew hs me n) with q | q
  · have:=this.2 q;omega
  · exact q
theorem heldFew_ge (hs:Nat→Int) (me:Int) (n:Nat) (h:n=3∨n=5) (hm:0≤me∧me < n) (hx:∀ j,0≤hs j):0≤heldFew hs me n:=by
  have:=(heldFew_iff hs me n h hm (-1)).1
  have e:n / 2≤cntO hs me (-1) n:=by
    rcases h with rfl | rfl
    · rw [cnt3]
      have:=hx 0;have:=hx 1;have:=hx 2
      repeat' split
      all_goals omega
    · rw [cnt5]
      have:=hx 0;have:=hx 1;have:=hx 2;have:=hx 3;have:=hx 4
      repeat' split
      all_goals omega
  have:=this e
  omega
end
section
open Go.RowKit
attribute [local go_sem ↓] Go.wp_at_zero Go.wp_at_succ
theorem RMov.box {x y:World} {B Q:Nat} {v u:RV} {v0 v1 v2 v3 v4 v5 v6 v7 v8 v9:Value} (h:RMov x y B v u) (hv:v.At x B) (hb:Box Q v0 v1 v2 v3 v4 v5 v6 v7 v8 v9 x):Box Q v0 v1 v2 v3 v4 v5 v6 v7 v8 v9 y :=
  hb.touch' h.tch (fun e=>by
    rcases e with e | e
    · subst e
      have h1:=hv.blk
      have h2:x.heap[Q]?=_:=hb
      rw [h1] at h2
      simp at h2
    · exact RowT.ne hv.so.own hb (by decide) e)
section
variable (v:RV) (B:Nat) (w:World) (h:v.At w B)
include h
theorem refBegun (Q:Ending→World→Prop) (hl:v.Lead) (frm place last lc lt:Int) (s:List UInt8) (n:Nat) (hn:n≤20) (w0:World) (g:Option Nat) (c:Nat) (ls:List Ln) (ho:OwnLines w0 w g c ls) (hls:linesOk ls=true) (hbl:(linesBytes ls).length≤300)
    (H1:v.m.ls.length < ls.length→v.arm=1→∀ y,RChg w y B v { v with dead:=true,lost:=recBytes (3 :: 0 :: linesBytes ls) }→Q (.returned (.tuple #[])) y)
    (H2:v.m.ls.length < ls.length→v.arm≠1→∀ y g' c',RMov w y B v (((v.took ls (armNext v.arm) g c).holds n).push (holdO v.me 0 ls.length frm) g' c')→Q (.returned (.tuple #[])) y)
    (H3:ls.length≤v.m.ls.length→∀ y g' c',RChg w y B v ((v.holds n).push (holdO v.me v.m.view v.m.ls.length frm) g' c')→Q (.returned (.tuple #[])) y) :
    Calls Tryz.prog 157 #[.pointer (some ⟨B,0,none⟩),.agg #[.int .i64 7,.int .i64 frm,.int .i64 0,.int .i64 place,.int .i64 n,.int .i64 last,.int .i64 lc,.int .i64 lt,.string ⟨s.toArray⟩,.slice (g.map fun k=>⟨k,0,none⟩) ls.length c]] w Q:=by
  have HI:Hid (∀ z,Below w.heap.size w z→Calls Tryz.prog 105 #[.pointer (some ⟨B,0,none⟩)] z fun e w'=>e=.returned (.bool true)∧Below z.heap.size z w'):=fun z hz=>by
    have:=refIn v B z (h.below hz)
    rw [hl.view,hl.last] at this
    exact this
  obtain ⟨hl20,hlo⟩:=linesOk_all hls
  have HLS:Hid (∀ l ∈ ls,l.s.length≤8):=fun l hh=>Ln.ok_len (hlo l hh)
  have HV:=hid h
  have HL:=hid hl
  have HO:=hid ho
  have HOS:=hid hl.os
  have G1:=hid H1
  have G2:=hid H2
  have G3:=hid H3
  have h20:=hl.l20
  clear h hl ho hls hlo H1 H2 H3
  go_enter Tryz.func157,Tryz.ntmps157
  go_wp2_with fail
  refine (HI.out _ ((Below.refl _ _).alloc (Nat.le_refl _) _)).mono ?_
  rintro e X ⟨rfl,hb1⟩
  have HB:Hid (Below w.heap.size w X):=((Below.refl _ w).alloc (Nat.le_refl _) _).trans (hb1.mono (by simp))
  have HQ:Hid (Box w.heap.size (.int .i64 7) (.int .i64 frm) (.int .i64 0) (.int .i64 place) (.int .i64 n) (.int .i64 last) (.int .i64 lc) (.int .i64 lt) (.string ⟨s.toArray⟩) (.slice (g.map fun k=>⟨k,0,none⟩) ls.length c) X):=(hb1.block _ (by simp)).trans (heap_alloc_new w _)
  clear hb1 HI
  have HA:=hid (HV.out.below HB.out)
  have x7:X.cell? ⟨B,7,none⟩=some (.int .i64 0):=by rw [← HL.out.view];exact cell_of_heap HA.out.blk 7
  have x9:X.cell? ⟨B,9,none⟩=some (.slice (v.g.map fun k=>⟨k,0,none⟩) v.m.ls.length v.c):=cell_of_heap HA.out.blk 9
  obtain ⟨r0,r1,r2,r3,r4,r5,r6,r7,r8,r9⟩:=box_cells HQ.out
  go_wp2
  rcases Nat.lt_or_ge v.m.ls.length ls.length with h1 | h1
  · have h1':(v.m.ls.length:Int) < (ls.length:Int):=by omega
    go_still_tail 23,(by kernel_rfl)
    go_wp2_with fail
    have HAY:=hid (HA.out.below ((Below.refl _ X).drew))
    have HBY:=hid HB.out.drew
    have HQY:=hid (Box.drew HQ.out)
    clear HA HQ r0 r1 r2 r3 r4 r5 r6 r7 r8 r9 x7 x9
    have HOY:=hid (HO.out.below HBY.out)
    generalize X.drew=Y at *
    by_cases ha:v.arm=1
    · have HTF:=hid (refTakeFail v B Y HAY.out HL.out.dead ha w0 g c ls HOY.out hl20 HLS.out hbl)
      have HAR:=hid ha
      clear ha
      refine HTF.out.mono ?_
      rintro e Z ⟨rfl,hch⟩
      have HF:=hid (RChg.of HBY.out HV.out hch)
      clear hch
      go_wp2
      refine bodyPost_ret (v:=.tuple #[]) ?_ rfl (G1.out h1 HAR.out _ HF.out)
      simp [results,Tryz.results157]
    · have HTO:=hid (refTakeOk v B Y HAY.out HL.out.dead (armNext v.arm) (by unfold armNext;have:=HL.out.arm;split <;> omega) HL.out.dl w0 g c ls HOY.out hl20 HLS.out hbl (by have:=HL.out.ag;omega))
      have HAR:=hid ha
      clear ha
      refine HTO.out.mono ?_
      rintro e Z ⟨rfl,hch⟩
      have HQZ:=hid (hch.box HAY.out HQY.out)
      have HMZ:=hid ((RChg.same HV.out HBY.out).mov.trans hch)
      clear hch HQY
      have HUW:=hid (HMZ.out.trans HMZ.out.at_.unwait.mov)
      have HQW:=hid (HMZ.out.at_.unwait.box HMZ.out.at_ HQZ.out)
      have c47:Z.cell? ⟨B,47,none⟩=some (.int .i64 0):=cell_of_heap HMZ.out.at_.blk 47
      have f47:Z.frozen? ⟨B,47,none⟩=false:=frozen_of_heap HMZ.out.at_.blk 47
      have HAG:=hid (refAgree _ B _ HUW.out.at_ n (by omega) (by show ls.length≤1000;omega))
      obtain ⟨r0,r1,r2,r3,r4,r5,r6,r7,r8,r9⟩:=box_cells HQZ.out
      go_wp2_with fail
      refine HAG.out.mono ?_
      rintro e Z2 ⟨rfl,hch⟩
      have HQ2:=hid (hch.box HUW.out.at_ HQW.out)
      have HC2:=hid (HUW.out.trans hch.mov)
      clear hch r0 r1 r2 r3 r4 r5 r6 r7 r8 r9 c47 f47 HAG
      obtain ⟨r0,r1,r2,r3,r4,r5,r6,r7,r8,r9⟩:=box_cells HQ2.out
      have HHO:=hid (refHolding _ B Z2 HC2.out.at_ frm (by show v.os.length≤1000;rw [HOS.out];simp) _ rfl)
      unfold SentRet at HHO
      go_wp2_with fail
      refine HHO.out.mono ?_
      rintro e Z3 ⟨rfl,g',c',hch⟩
      have HF:=hid (HC2.out.trans hch.mov)
      clear hch
      go_wp2
      go_end0
      exact G2.out h1 HAR.out _ g' c' HF.out
  · have h1':¬ (v.m.ls.length:Int) < (ls.length:Int):=by omega
    go_still_tail 23,(by kernel_rfl)
    have c47:X.cell? ⟨B,47,none⟩=some (.int .i64 0):=cell_of_heap HA.out.blk 47
    have f47:X.frozen? ⟨B,47,none⟩=false:=frozen_of_heap HA.out.blk 47
    have HUW:=hid ((RChg.of HB.out HV.out HA.out.unwait).below ((Below.refl _ _).drew))
    have HQW:=hid (Box.drew (HA.out.unwait.box HA.out HQ.out))
    have HAG:=hid (refAgree v B _ HUW.out.at_ n (by omega) (by omega))
    go_wp2_with fail
    refine HAG.out.mono ?_
    rintro e Z2 ⟨rfl,hch⟩
    have HQ2:=hid (hch.box HUW.out.at_ HQW.out)
    have HC2:=hid (HUW.out.trans hch)
    clear hch r0 r1 r2 r3 r4 r5 r6 r7 r8 r9 c47 f47 HAG x7 x9
    obtain ⟨r0,r1,r2,r3,r4,r5,r6,r7,r8,r9⟩:=box_cells HQ2.out
    have HHO:=hid (refHolding _ B Z2 HC2.out.at_ frm (by show v.os.length≤1000;rw [HOS.out];simp) _ rfl)
    unfold SentRet at HHO
    go_wp2_with fail
    refine HHO.out.mono ?_
    rintro e Z3 ⟨rfl,g',c',hch⟩
    have HF:=hid (HC2.out.trans hch)
    clear hch
    go_wp2
    go_end0
    exact G3.out h1 _ g' c' HF.out
end
end
end Go.Proofs.YtolififimldmlaaGreat
