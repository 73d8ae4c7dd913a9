import Derived.Test.YtolififimldmlaaGreatPart38
import Derived.Test.YtolififimldmlaaGreatPart37
set_option linter.unusedVariables false
set_option linter.unusedSimpArgs false
set_option maxRecDepth 100000
set_option maxHeartbeats 16000000
namespace Go.Proofs.YtolififimldmlaaGreat
section
open Go.RowKit
attribute [local go_sem ↓] Go.wp_at_zero Go.wp_at_succ
section
variable (v:RV) (B:Nat) (w:World) (h:v.At w B)
include h
theorem refRej3_2 (hd:v.dead=false) (hk:v.kp=3∨v.kp=5) (b:List UInt8) (hbn:b.length≤10000000) (frm place agreed last lc lt:Int) (s:List UInt8) (ls:List Ln) (hU:unpackR b=some ⟨2,frm,0,place,agreed,last,⟨lc,lt,s⟩,ls⟩) (hf1:frm≠v.me) (hf2:frm < v.kp) (hf0:(0:Int)≠frm) :
    Calls Tryz.prog 63 #[.pointer (some ⟨B,0,none⟩),.string ⟨b.toArray⟩] w (NoRet w 3):=by
  have HU:Hid (∀ z,Calls Tryz.prog 97 #[.string ⟨b.toArray⟩] z fun e w'=>∃ g c,e=.returned (.tuple #[.agg #[.int .i64 2,.int .i64 frm,.int .i64 0,.int .i64 place,.int .i64 agreed,.int .i64 last,.int .i64 lc,.int .i64 lt,.string ⟨s.toArray⟩,.slice (g.map fun k=>⟨k,0,none⟩) ls.length c],.int .i64 0])∧OwnLines z w' g c ls∧Below z.heap.size z w'):=fun z=>(refUnpack_any b z (Nat.le_trans hbn (by decide))).mono (by
    rintro e w' ⟨g,c,he,ho,hb⟩
    obtain ⟨u1,u2⟩:=un_yes hU
    rw [u1] at he ho
    rw [u2] at he
    exact ⟨g,c,he,ho,hb⟩)
  have HV:=hid h
  have c5:w.cell? ⟨B,5,none⟩=some (.bool false):=by rw [← hd];exact cell_of_heap h.blk 5
  have e1:(frm == v.me)=false:=by rw [beq_eq_false_iff_ne];exact hf1
  have e2:(v.kp≤frm)↔False:=iff_false_intro (by omega)
  have e3:v.kp≠0:=by omega
  have e4:((0:Int) != frm)=true:=by simp [hf0]
  clear h hd hU hk hf1 hf2
  go_enter Tryz.func63,Tryz.ntmps63
  go_wp2_with fail
  refine (HU.out _).mono ?_
  rintro e X ⟨g,c,rfl,ho,hb1⟩
  have HB:=hid (hb1.alloc hb1.size (.cells #[.int .i64 2,.int .i64 frm,.int .i64 0,.int .i64 place,.int .i64 agreed,.int .i64 last,.int .i64 lc,.int .i64 lt,.string ⟨s.toArray⟩,.slice (g.map fun k=>⟨k,0,none⟩) ls.length c] 30))
  have HO:=hid (ho.below ((Below.refl _ X).alloc (Nat.le_refl _) (.cells #[.int .i64 2,.int .i64 frm,.int .i64 0,.int .i64 place,.int .i64 agreed,.int .i64 last,.int .i64 lc,.int .i64 lt,.string ⟨s.toArray⟩,.slice (g.map fun k=>⟨k,0,none⟩) ls.length c] 30)))
  have HQ:Hid (Box X.heap.size (.int .i64 2) (.int .i64 frm) (.int .i64 0) (.int .i64 place) (.int .i64 agreed) (.int .i64 last) (.int .i64 lc) (.int .i64 lt) (.string ⟨s.toArray⟩) (.slice (g.map fun k=>⟨k,0,none⟩) ls.length c) (X.alloc (.cells #[.int .i64 2,.int .i64 frm,.int .i64 0,.int .i64 place,.int .i64 agreed,.int .i64 last,.int .i64 lc,.int .i64 lt,.string ⟨s.toArray⟩,.slice (g.map fun k=>⟨k,0,none⟩) ls.length c] 30))):=heap_alloc_new X _
  clear hb1 ho c5 HU
  go_wp2
  generalize X.alloc (.cells #[.int .i64 2,.int .i64 frm,.int .i64 0,.int .i64 place,.int .i64 agreed,.int .i64 last,.int .i64 lc,.int .i64 lt,.string ⟨s.toArray⟩,.slice (g.map fun k=>⟨k,0,none⟩) ls.length c] 30)=Y at *
  have HA:=hid (HV.out.below HB.out)
  have y0:Y.cell? ⟨B,0,none⟩=some (.int .i64 v.kp):=cell_of_heap HA.out.blk 0
  have y1:Y.cell? ⟨B,1,none⟩=some (.int .i64 v.me):=cell_of_heap HA.out.blk 1
  obtain ⟨r0,r1,r2,r3,r4,r5,r6,r7,r8,r9⟩:=box_cells HQ.out
  go_still_tail 17,(by kernel_rfl)
  go_wp2
  have HBY:=hid HB.out.drew
  have HQY:=hid (Box.drew HQ.out)
  have HOY:=hid (HO.out.below ((Below.refl _ Y).drew))
  clear HB HQ HA HO r0 r1 r2 r3 r4 r5 r6 r7 r8 r9 y0 y1
  generalize Y.drew=Z at *
  have HAZ:=hid (HV.out.below HBY.out)
  have y0:Z.cell? ⟨B,0,none⟩=some (.int .i64 v.kp):=cell_of_heap HAZ.out.blk 0
  have y1:Z.cell? ⟨B,1,none⟩=some (.int .i64 v.me):=cell_of_heap HAZ.out.blk 1
  obtain ⟨r0,r1,r2,r3,r4,r5,r6,r7,r8,r9⟩:=box_cells HQY.out
  go_still_tail 25,(by kernel_rfl)
  go_wp2
  go_ret2
  exact ⟨rfl,HBY.out.drew⟩
theorem refRej3_4 (hd:v.dead=false) (hk:v.kp=3∨v.kp=5) (b:List UInt8) (hbn:b.length≤10000000) (frm place agreed last lc lt:Int) (s:List UInt8) (ls:List Ln) (hU:unpackR b=some ⟨4,frm,0,place,agreed,last,⟨lc,lt,s⟩,ls⟩) (hf1:frm≠v.me) (hf2:frm < v.kp) (hf0:(0:Int)≠frm) :
    Calls Tryz.prog 63 #[.pointer (some ⟨B,0,none⟩),.string ⟨b.toArray⟩] w (NoRet w 3):=by
  have HU:Hid (∀ z,Calls Tryz.prog 97 #[.string ⟨b.toArray⟩] z fun e w'=>∃ g c,e=.returned (.tuple #[.agg #[.int .i64 4,.int .i64 frm,.int .i64 0,.int .i64 place,.int .i64 agreed,.int .i64 last,.int .i64 lc,.int .i64 lt,.string ⟨s.toArray⟩,.slice (g.map fun k=>⟨k,0,none⟩) ls.length c],.int .i64 0])∧OwnLines z w' g c ls∧Below z.heap.size z w'):=fun z=>(refUnpack_any b z (Nat.le_trans hbn (by decide))).mono (by
    rintro e w' ⟨g,c,he,ho,hb⟩
    obtain ⟨u1,u2⟩:=un_yes hU
    rw [u1] at he ho
    rw [u2] at he
    exact ⟨g,c,he,ho,hb⟩)
  have HV:=hid h
  have c5:w.cell? ⟨B,5,none⟩=some (.bool false):=by rw [← hd];exact cell_of_heap h.blk 5
  have e1:(frm == v.me)=false:=by rw [beq_eq_false_iff_ne];exact hf1
  have e2:(v.kp≤frm)↔False:=iff_false_intro (by omega)
  have e3:v.kp≠0:=by omega
  have e4:((0:Int) != frm)=true:=by simp [hf0]
  clear h hd hU hk hf1 hf2
  go_enter Tryz.func63,Tryz.ntmps63
  go_wp2_with fail
  refine (HU.out _).mono ?_
  rintro e X ⟨g,c,rfl,ho,hb1⟩
  have HB:=hid (hb1.alloc hb1.size (.cells #[.int .i64 4,.int .i64 frm,.int .i64 0,.int .i64 place,.int .i64 agreed,.int .i64 last,.int .i64 lc,.int .i64 lt,.string ⟨s.toArray⟩,.slice (g.map fun k=>⟨k,0,none⟩) ls.length c] 30))
  have HO:=hid (ho.below ((Below.refl _ X).alloc (Nat.le_refl _) (.cells #[.int .i64 4,.int .i64 frm,.int .i64 0,.int .i64 place,.int .i64 agreed,.int .i64 last,.int .i64 lc,.int .i64 lt,.string ⟨s.toArray⟩,.slice (g.map fun k=>⟨k,0,none⟩) ls.length c] 30)))
  have HQ:Hid (Box X.heap.size (.int .i64 4) (.int .i64 frm) (.int .i64 0) (.int .i64 place) (.int .i64 agreed) (.int .i64 last) (.int .i64 lc) (.int .i64 lt) (.string ⟨s.toArray⟩) (.slice (g.map fun k=>⟨k,0,none⟩) ls.length c) (X.alloc (.cells #[.int .i64 4,.int .i64 frm,.int .i64 0,.int .i64 place,.int .i64 agreed,.int .i64 last,.int .i64 lc,.int .i64 lt,.string ⟨s.toArray⟩,.slice (g.map fun k=>⟨k,0,none⟩) ls.length c] 30))):=heap_alloc_new X _
  clear hb1 ho c5 HU
  go_wp2
  generalize X.alloc (.cells #[.int .i64 4,.int .i64 frm,.int .i64 0,.int .i64 place,.int .i64 agreed,.int .i64 last,.int .i64 lc,.int .i64 lt,.string ⟨s.toArray⟩,.slice (g.map fun k=>⟨k,0,none⟩) ls.length c] 30)=Y at *
  have HA:=hid (HV.out.below HB.out)
  have y0:Y.cell? ⟨B,0,none⟩=some (.int .i64 v.kp):=cell_of_heap HA.out.blk 0
  have y1:Y.cell? ⟨B,1,none⟩=some (.int .i64 v.me):=cell_of_heap HA.out.blk 1
  obtain ⟨r0,r1,r2,r3,r4,r5,r6,r7,r8,r9⟩:=box_cells HQ.out
  go_still_tail 17,(by kernel_rfl)
  go_wp2
  have HBY:=hid HB.out.drew
  have HQY:=hid (Box.drew HQ.out)
  have HOY:=hid (HO.out.below ((Below.refl _ Y).drew))
  clear HB HQ HA HO r0 r1 r2 r3 r4 r5 r6 r7 r8 r9 y0 y1
  generalize Y.drew=Z at *
  have HAZ:=hid (HV.out.below HBY.out)
  have y0:Z.cell? ⟨B,0,none⟩=some (.int .i64 v.kp):=cell_of_heap HAZ.out.blk 0
  have y1:Z.cell? ⟨B,1,none⟩=some (.int .i64 v.me):=cell_of_heap HAZ.out.blk 1
  obtain ⟨r0,r1,r2,r3,r4,r5,r6,r7,r8,r9⟩:=box_cells HQY.out
  go_still_tail 25,(by kernel_rfl)
  go_wp2
  go_ret2
  exact ⟨rfl,HBY.out.drew⟩
theorem refRej3_7 (hd:v.dead=false) (hk:v.kp=3∨v.kp=5) (b:List UInt8) (hbn:b.length≤10000000) (frm place agreed last lc lt:Int) (s:List UInt8) (ls:List Ln) (hU:unpackR b=some ⟨7,frm,0,place,agreed,last,⟨lc,lt,s⟩,ls⟩) (hf1:frm≠v.me) (hf2:frm < v.kp) (hf0:(0:Int)≠frm) :
    Calls Tryz.prog 63 #[.pointer (some ⟨B,0,none⟩),.string ⟨b.toArray⟩] w (NoRet w 3):=by
  have HU:Hid (∀ z,Calls Tryz.prog 97 #[.string ⟨b.toArray⟩] z fun e w'=>∃ g c,e=.returned (.tuple #[.agg #[.int .i64 7,.int .i64 frm,.int .i64 0,.int .i64 place,.int .i64 agreed,.int .i64 last,.int .i64 lc,.int .i64 lt,.string ⟨s.toArray⟩,.slice (g.map fun k=>⟨k,0,none⟩) ls.length c],.int .i64 0])∧OwnLines z w' g c ls∧Below z.heap.size z w'):=fun z=>(refUnpack_any b z (Nat.le_trans hbn (by decide))).mono (by
    rintro e w' ⟨g,c,he,ho,hb⟩
    obtain ⟨u1,u2⟩:=un_yes hU
    rw [u1] at he ho
    rw [u2] at he
    exact ⟨g,c,he,ho,hb⟩)
  have HV:=hid h
  have c5:w.cell? ⟨B,5,none⟩=some (.bool false):=by rw [← hd];exact cell_of_heap h.blk 5
  have e1:(frm == v.me)=false:=by rw [beq_eq_false_iff_ne];exact hf1
  have e2:(v.kp≤frm)↔False:=iff_false_intro (by omega)
  have e3:v.kp≠0:=by omega
  have e4:((0:Int) != frm)=true:=by simp [hf0]
  clear h hd hU hk hf1 hf2
  go_enter Tryz.func63,Tryz.ntmps63
  go_wp2_with fail
  refine (HU.out _).mono ?_
  rintro e X ⟨g,c,rfl,ho,hb1⟩
  have HB:=hid (hb1.alloc hb1.size (.cells #[.int .i64 7,.int .i64 frm,.int .i64 0,.int .i64 place,.int .i64 agreed,.int .i64 last,.int .i64 lc,.int .i64 lt,.string ⟨s.toArray⟩,.slice (g.map fun k=>⟨k,0,none⟩) ls.length c] 30))
  have HO:=hid (ho.below ((Below.refl _ X).alloc (Nat.le_refl _) (.cells #[.int .i64 7,.int .i64 frm,.int .i64 0,.int .i64 place,.int .i64 agreed,.int .i64 last,.int .i64 lc,.int .i64 lt,.string ⟨s.toArray⟩,.slice (g.map fun k=>⟨k,0,none⟩) ls.length c] 30)))
  have HQ:Hid (Box X.heap.size (.int .i64 7) (.int .i64 frm) (.int .i64 0) (.int .i64 place) (.int .i64 agreed) (.int .i64 last) (.int .i64 lc) (.int .i64 lt) (.string ⟨s.toArray⟩) (.slice (g.map fun k=>⟨k,0,none⟩) ls.length c) (X.alloc (.cells #[.int .i64 7,.int .i64 frm,.int .i64 0,.int .i64 place,.int .i64 agreed,.int .i64 last,.int .i64 lc,.int .i64 lt,.string ⟨s.toArray⟩,.slice (g.map fun k=>⟨k,0,none⟩) ls.length c] 30))):=heap_alloc_new X _
  clear hb1 ho c5 HU
  go_wp2
  generalize X.alloc (.cells #[.int .i64 7,.int .i64 frm,.int .i64 0,.int .i64 place,.int .i64 agreed,.int .i64 last,.int .i64 lc,.int .i64 lt,.string ⟨s.toArray⟩,.slice (g.map fun k=>⟨k,0,none⟩) ls.length c] 30)=Y at *
  have HA:=hid (HV.out.below HB.out)
  have y0:Y.cell? ⟨B,0,none⟩=some (.int .i64 v.kp):=cell_of_heap HA.out.blk 0
  have y1:Y.cell? ⟨B,1,none⟩=some (.int .i64 v.me):=cell_of_heap HA.out.blk 1
  obtain ⟨r0,r1,r2,r3,r4,r5,r6,r7,r8,r9⟩:=box_cells HQ.out
  go_still_tail 17,(by kernel_rfl)
  go_wp2
  have HBY:=hid HB.out.drew
  have HQY:=hid (Box.drew HQ.out)
  have HOY:=hid (HO.out.below ((Below.refl _ Y).drew))
  clear HB HQ HA HO r0 r1 r2 r3 r4 r5 r6 r7 r8 r9 y0 y1
  generalize Y.drew=Z at *
  have HAZ:=hid (HV.out.below HBY.out)
  have y0:Z.cell? ⟨B,0,none⟩=some (.int .i64 v.kp):=cell_of_heap HAZ.out.blk 0
  have y1:Z.cell? ⟨B,1,none⟩=some (.int .i64 v.me):=cell_of_heap HAZ.out.blk 1
  obtain ⟨r0,r1,r2,r3,r4,r5,r6,r7,r8,r9⟩:=box_cells HQY.out
  go_still_tail 25,(by kernel_rfl)
  go_wp2
  go_ret2
  exact ⟨rfl,HBY.out.drew⟩
end
def RV.remR (v:RV) (t:Int):Fr:=if v.hs t.toNat < v.m.ls.length then ⟨2,v.me,v.m.view,v.hs t.toNat+1,v.ag,0,v.m.ls.getD (v.hs t.toNat).toNat Ln.zero,[]⟩ else ⟨4,v.me,v.m.view,0,v.ag,0,Ln.zero,[]⟩
section
variable (v:RV) (B:Nat) (w:World) (h:v.At w B)
include h
theorem refTickDead (hd:v.dead=true) :
    Calls Tryz.prog 66 #[.pointer (some ⟨B,0,none⟩)] w (NoRet w 5):=by
  have c5:w.cell? ⟨B,5,none⟩=some (.bool true):=by rw [← hd];exact cell_of_heap h.blk 5
  clear h hd
  go_enter Tryz.func66,Tryz.ntmps66
  go_wp2
  go_ret2
  exact ⟨rfl,Below.refl _ _⟩
theorem refTick (hl:v.Lead) (hme:v.me=0) (n:Nat) (hkn:v.kp=n) (hn:n≤5) (hh:∀ j,0≤v.hs j) :
    Calls Tryz.prog 66 #[.pointer (some ⟨B,0,none⟩)] w (DoneRet w B v (fun u=>∃ g c,u=v.pushAll ((othersL v.me n).map fun t=>⟨false,t,packS (v.remR t)⟩) g c)):=by
  have HI:Hid (∀ z,Below w.heap.size w z→Calls Tryz.prog 105 #[.pointer (some ⟨B,0,none⟩)] z fun e w'=>e=.returned (.bool true)∧Below z.heap.size z w'):=fun z hz=>by
    have:=refIn v B z (h.below hz)
    rw [hl.view,hl.last] at this
    exact this
  have HD:Hid (∀ z,Below w.heap.size w z→Calls Tryz.prog 106 #[.pointer (some ⟨B,0,none⟩)] z fun e w'=>e=.returned (.bool true)∧Below z.heap.size z w'):=fun z hz=>by
    have:=refLeads v B z (h.below hz) hl.kp hl.view
    rw [decide_eq_true hme.symm] at this
    exact this
  have HS4:Hid (∀ (u:RV) (z:World) (t:Int),u.At z B→u.me=v.me→u.os.length≤1000→Calls Tryz.prog 107 #[.pointer (some ⟨B,0,none⟩),.int .i64 t,.agg #[.int .i64 4,.int .i64 0,.int .i64 v.m.view,.int .i64 0,.int .i64 v.ag,.int .i64 0,.int .i64 0,.int .i64 0,.string ⟨#[]⟩,.slice none 0 0]] z (SentRet z B u ⟨false,t,packS ⟨4,v.me,v.m.view,0,v.ag,0,Ln.zero,[]⟩⟩)):=fun u z t hu he ho =>
    refSend u B z hu t ⟨4,0,v.m.view,0,v.ag,0,Ln.zero,[]⟩ none 0 (fun j hj=>absurd hj (Nat.not_lt_zero _)) (Nat.zero_le _) (Nat.le_refl _) ho _ (by rw [he])
  have HS2:Hid (∀ (u:RV) (z:World) (t:Int) (p:Nat) (ln:Ln),u.At z B→u.me=v.me→u.os.length≤1000→Calls Tryz.prog 107 #[.pointer (some ⟨B,0,none⟩),.int .i64 t,.agg #[.int .i64 2,.int .i64 0,.int .i64 v.m.view,.int .i64 (p+1:Nat),.int .i64 v.ag,.int .i64 0,.int .i64 ln.c,.int .i64 ln.t,.string ⟨ln.s.toArray⟩,.slice none 0 0]] z (SentRet z B u ⟨false,t,packS ⟨2,v.me,v.m.view,(p+1:Nat),v.ag,0,ln,[]⟩⟩)):=fun u z t p ln hu he ho =>
    refSend u B z hu t ⟨2,0,v.m.view,(p+1:Nat),v.ag,0,ln,[]⟩ none 0 (fun j hj=>absurd hj (Nat.not_lt_zero _)) (Nat.zero_le _) (Nat.le_refl _) ho _ (by rw [he])
  unfold SentRet at HS4 HS2
  have HDN:Hid (∀ y g c,RChg w y B v (v.pushAll ((othersL v.me n).map fun t=>⟨false,t,packS (v.remR t)⟩) g c)→Calls Tryz.prog 103 #[.pointer (some ⟨B,0,none⟩)] y fun e z=>(∃ x n,e=.returned (.tuple #[x,.int .i64 n]))∧DoneRet w B v (fun u=>∃ g c,u=v.pushAll ((othersL v.me n).map fun t=>⟨false,t,packS (v.remR t)⟩) g c) e z):=fun y g c hc=>done_of hc ⟨g,c,rfl⟩
  generalize DoneRet w B v (fun u=>∃ g c,u=v.pushAll ((othersL v.me n).map fun t=>⟨false,t,packS (v.remR t)⟩) g c)=Q at *
  have HV:=hid h
  have HL:=hid hl
  have HKN:=hid hkn
  have HH:=hid hh
  have hos:v.os=[]:=hl.os
  have HOS:=hid hos
  have c5:w.cell? ⟨B,5,none⟩=some (.bool false):=by rw [← hl.dead];exact cell_of_heap h.blk 5
  have h20:=hl.l20
  clear h hl hkn hh hos hme
  go_enter Tryz.func66,Tryz.ntmps66
  go_wp2_with fail
  refine (HI.out _ (Below.refl _ _)).mono ?_
  rintro e Z1 ⟨rfl,hb1⟩
  have HB1:=hid hb1
  clear hb1 c5
  go_wp2_with fail
  refine (HD.out _ HB1.out).mono ?_
  rintro e Z2 ⟨rfl,hb2⟩
  have HB2:=hid (HB1.out.trans (hb2.mono HB1.out.size))
  clear hb2 HB1 HI HD
  have H0:=hid (RChg.same HV.out HB2.out)
  go_wp2
  go_loopw [6] (fun i wr=>∃ (k:Nat) (g:Option Nat) (c:Nat),k≤n∧i=.int .i64 k∧Hid (RChg w wr B v (v.pushAll ((othersL v.me k).map fun t=>⟨false,t,packS (v.remR t)⟩) g c))) (fun i _=>n - (intOf i).toNat)
  case atStart=>exact ⟨0,v.sg,v.sc,Nat.zero_le _,rfl,by show RChg _ _ _ _ _;have:=H0.out;unfold othersL;rw [List.map_nil,RV.pushAll_nil];exact this⟩
  case round =>
    obtain ⟨k,g,c,hkn,rfl,HR⟩:=hrel
    have c0:wr.cell? ⟨B,0,none⟩=some (.int .i64 n):=by rw [← HKN.out];exact cell_of_heap HR.out.at_.blk 0
    have c1:wr.cell? ⟨B,1,none⟩=some (.int .i64 v.me):=cell_of_heap HR.out.at_.blk 1
    have hol:=othersL_len v.me k
    by_cases hlt:k < n
    · have b1:(k:Int) < (n:Int):=by omega
      by_cases hme:(k:Int)=v.me
      · have HME:=hid hme
        have hbe:(k:Int)=v.me↔True:=iff_true_intro hme
        go_wp2
        go_roundw
        case rel=>exact ⟨k+1,g,c,by omega,by go_num,by unfold othersL;rw [if_pos HME.out,List.append_nil];exact HR⟩
        case measure=>simp [intOf];omega
      · have k0:(0:Int)≤(k:Int):=by omega
        have k5:(k:Int) < 5:=by omega
        obtain ⟨p,hp⟩:∃ p:Nat,v.hs k=p:=⟨(v.hs k).toNat,by have:=HH.out k;omega⟩
        have xh:wr.cell? ⟨B,11+k,none⟩=some (.int .i64 p):=by rw [← hp];exact HR.out.at_.holdCell k (by omega)
        have x9:wr.cell? ⟨B,9,none⟩=some (.slice (v.g.map fun k=>⟨k,0,none⟩) v.m.ls.length v.c):=cell_of_heap HR.out.at_.blk 9
        have hlo:(v.pushAll ((othersL v.me k).map fun t=>(⟨false,t,packS (v.remR t)⟩:OutG)) g c).os.length≤1000:=by show (v.os++_).length≤1000;rw [HOS.out,List.length_append,List.length_map];simp;omega
        have HLO:=hid hlo
        clear hlo
        have HP:=hid hp
        clear hp
        by_cases hps:p < v.m.ls.length
        · have hpi:(p:Int) < (v.m.ls.length:Int):=by omega
          have HRM:Hid (v.remR k=⟨2,v.me,v.m.view,(p+1:Nat),v.ag,0,v.m.ls[p],[]⟩):=by
            show _=_
            unfold RV.remR
            rw [Int.toNat_natCast,HP.out,if_pos hpi,Int.toNat_natCast,getD_at _ _ _ hps]
            rfl
          have xh':wr.drew.cell? ⟨B,11+k,none⟩=some (.int .i64 p):=xh
          have wp1:IntKind.i64.wrap ((p:Int)+1)=((p+1:Nat):Int):=by rw [IntWalk.i64_left,IntWalk.wrap64_in _ (by omega)];omega
          have HR1:=hid (HR.out.below ((Below.refl _ wr).drew))
          have HPR:=hid (fun z hz=>refPrepare _ B z (HR1.out.at_.below hz) p hps (Nat.le_trans h20 (by decide)) v.m.ls[p] rfl)
          have HSN:=hid (fun z hz=>HS2.out _ z k p v.m.ls[p] (HR1.out.at_.below hz) rfl HLO.out)
          go_wp2
          go_still_tail 12,(by kernel_rfl)
          go_wp2_with fail
          refine (HPR.out _ (Below.refl _ _)).mono ?_
          rintro e Y1 ⟨rfl,hb1⟩
          have HB1:=hid hb1
          clear hb1 c0 c1 xh xh' x9
          go_wp2_with fail
          refine (HSN.out _ HB1.out).mono ?_
          rintro e Y2 ⟨rfl,g2,c2,hch⟩
          have HR2:=hid ((HR1.out.below HB1.out).trans hch)
          rw [RV.pushAll_push] at HR2
          clear hch
          go_wp2
          go_roundw
          case rel=>exact ⟨k+1,some g2,c2,by omega,by go_num,by unfold othersL;rw [if_neg hme,List.map_append,List.map_cons,List.map_nil,HRM.out];exact HR2⟩
          case measure=>simp [intOf];omega
        · have hpi:¬ ((p:Int) < (v.m.ls.length:Int)):=by omega
          have HRM:Hid (v.remR k=⟨4,v.me,v.m.view,0,v.ag,0,Ln.zero,[]⟩):=by
            show _=_
            unfold RV.remR
            rw [Int.toNat_natCast,HP.out,if_neg hpi]
          have x7':wr.drew.cell? ⟨B,7,none⟩=some (.int .i64 v.m.view):=cell_of_heap HR.out.at_.blk 7
          have x10':wr.drew.cell? ⟨B,10,none⟩=some (.int .i64 v.ag):=cell_of_heap HR.out.at_.blk 10
          have HR1:=hid (HR.out.below ((Below.refl _ wr).drew))
          have HSN:=hid (fun z hz=>HS4.out _ z k (HR1.out.at_.below hz) rfl HLO.out)
          go_wp2
          go_still_tail 12,(by kernel_rfl)
          go_wp2
          clear c0 c1 xh x9
          generalize wr.drew=Y1 at *
          go_still_tail 12,(by kernel_rfl)
          go_wp2_with fail
          refine (HSN.out _ ((Below.refl _ _).drew)).mono ?_
          rintro e Y2 ⟨rfl,g2,c2,hch⟩
          have HR2:=hid ((HR1.out.below ((Below.refl _ _).drew)).trans hch)
          rw [RV.pushAll_push] at HR2
          clear hch x7' x10'
          go_wp2
          go_roundw
          case rel=>exact ⟨k+1,some g2,c2,by omega,by go_num,by unfold othersL;rw [if_neg hme,List.map_append,List.map_cons,List.map_nil,HRM.out];exact HR2⟩
          case measure=>simp [intOf];omega
    · have hkn:k=n:=by omega
      subst hkn
      go_wp2_with fail
      refine (HDN.out _ g c HR.out).mono ?_
      rintro e z ⟨⟨x,m,rfl⟩,hq⟩
      have HQF:=hid hq
      clear hq
      go_wp2
      exact HQF.out
end
end
end Go.Proofs.YtolififimldmlaaGreat
