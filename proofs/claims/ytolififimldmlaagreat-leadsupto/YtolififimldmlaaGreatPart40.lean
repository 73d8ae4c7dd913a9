import Derived.Test.YtolififimldmlaaGreatPart38
set_option linter.unusedVariables false
set_option linter.unusedSimpArgs false
set_option maxRecDepth 100000
set_option maxHeartbeats 16000000
namespace Go.Proofs.YtolififimldmlaaGreat
section
open Go.RowKit
attribute [local go_sem ↓] Go.wp_at_zero Go.wp_at_succ
section
variable (v:RV) (B:Nat) (w:World) (h:v.At w B)
include h
theorem refTake8 (R:RV→Prop) (hd:v.dead=false) (hk:v.kp=3∨v.kp=5) (b:List UInt8) (hbn:b.length≤10000000) (frm place agreed last lc lt:Int) (s:List UInt8) (ls:List Ln) (hU:unpackR b=some ⟨8,frm,0,place,agreed,last,⟨lc,lt,s⟩,ls⟩) (hf1:frm≠v.me) (hf2:frm < v.kp)
    (H:∀ z g c,Below w.heap.size w z→OwnLines w z g c ls→Calls Tryz.prog 104 #[.pointer (some ⟨B,0,none⟩),.agg #[.int .i64 8,.int .i64 frm,.int .i64 0,.int .i64 place,.int .i64 agreed,.int .i64 last,.int .i64 lc,.int .i64 lt,.string ⟨s.toArray⟩,.slice (g.map fun k=>⟨k,0,none⟩) ls.length c]] z fun e y=>e=.returned (.tuple #[])∧∃ u,RChg w y B v u∧R u) :
    Calls Tryz.prog 63 #[.pointer (some ⟨B,0,none⟩),.string ⟨b.toArray⟩] w (DoneRet w B v R):=by
  have HU:Hid (∀ z,Calls Tryz.prog 97 #[.string ⟨b.toArray⟩] z fun e w'=>∃ g c,e=.returned (.tuple #[.agg #[.int .i64 8,.int .i64 frm,.int .i64 0,.int .i64 place,.int .i64 agreed,.int .i64 last,.int .i64 lc,.int .i64 lt,.string ⟨s.toArray⟩,.slice (g.map fun k=>⟨k,0,none⟩) ls.length c],.int .i64 0])∧OwnLines z w' g c ls∧Below z.heap.size z w'):=fun z=>(refUnpack_any b z (Nat.le_trans hbn (by decide))).mono (by
    rintro e w' ⟨g,c,he,ho,hb⟩
    obtain ⟨u1,u2⟩:=un_yes hU
    rw [u1] at he ho
    rw [u2] at he
    exact ⟨g,c,he,ho,hb⟩)
  have HV:=hid h
  have c5:w.cell? ⟨B,5,none⟩=some (.bool false):=by rw [← hd];exact cell_of_heap h.blk 5
  have G:=hid H
  have e1:(frm == v.me)=false:=by rw [beq_eq_false_iff_ne];exact hf1
  have e2:(v.kp≤frm)↔False:=iff_false_intro (by omega)
  have e3:v.kp≠0:=by omega
  clear h hd hU H hk hf1 hf2
  go_enter Tryz.func63,Tryz.ntmps63
  go_wp2_with fail
  refine (HU.out _).mono ?_
  rintro e X ⟨g,c,rfl,ho,hb1⟩
  have HB:=hid (hb1.alloc hb1.size (.cells #[.int .i64 8,.int .i64 frm,.int .i64 0,.int .i64 place,.int .i64 agreed,.int .i64 last,.int .i64 lc,.int .i64 lt,.string ⟨s.toArray⟩,.slice (g.map fun k=>⟨k,0,none⟩) ls.length c] 30))
  have HO:=hid (ho.below ((Below.refl _ X).alloc (Nat.le_refl _) (.cells #[.int .i64 8,.int .i64 frm,.int .i64 0,.int .i64 place,.int .i64 agreed,.int .i64 last,.int .i64 lc,.int .i64 lt,.string ⟨s.toArray⟩,.slice (g.map fun k=>⟨k,0,none⟩) ls.length c] 30)))
  have HQ:Hid (Box X.heap.size (.int .i64 8) (.int .i64 frm) (.int .i64 0) (.int .i64 place) (.int .i64 agreed) (.int .i64 last) (.int .i64 lc) (.int .i64 lt) (.string ⟨s.toArray⟩) (.slice (g.map fun k=>⟨k,0,none⟩) ls.length c) (X.alloc (.cells #[.int .i64 8,.int .i64 frm,.int .i64 0,.int .i64 place,.int .i64 agreed,.int .i64 last,.int .i64 lc,.int .i64 lt,.string ⟨s.toArray⟩,.slice (g.map fun k=>⟨k,0,none⟩) ls.length c] 30))):=heap_alloc_new X _
  clear hb1 ho c5 HU
  go_wp2
  generalize X.alloc (.cells #[.int .i64 8,.int .i64 frm,.int .i64 0,.int .i64 place,.int .i64 agreed,.int .i64 last,.int .i64 lc,.int .i64 lt,.string ⟨s.toArray⟩,.slice (g.map fun k=>⟨k,0,none⟩) ls.length c] 30)=Y at *
  have HA:=hid (HV.out.below HB.out)
  have y0:Y.cell? ⟨B,0,none⟩=some (.int .i64 v.kp):=cell_of_heap HA.out.blk 0
  have y1:Y.cell? ⟨B,1,none⟩=some (.int .i64 v.me):=cell_of_heap HA.out.blk 1
  obtain ⟨r0,r1,r2,r3,r4,r5,r6,r7,r8,r9⟩:=box_cells HQ.out
  go_still_tail 17,(by kernel_rfl)
  go_wp2
  have HBY:=hid HB.out.drew
  have HQY:=hid (Box.drew HQ.out)
  have HOY:=hid (HO.out.below ((Below.refl _ Y).drew))
  clear HB HQ HA HO r0 r1 r2 r3 r4 r5 r6 r7 r8 r9 y0 y1
  generalize Y.drew=Z at *
  have HAZ:=hid (HV.out.below HBY.out)
  have y0:Z.cell? ⟨B,0,none⟩=some (.int .i64 v.kp):=cell_of_heap HAZ.out.blk 0
  have y1:Z.cell? ⟨B,1,none⟩=some (.int .i64 v.me):=cell_of_heap HAZ.out.blk 1
  obtain ⟨r0,r1,r2,r3,r4,r5,r6,r7,r8,r9⟩:=box_cells HQY.out
  have hS0:(fun z:World=>Z.heap.size≤z.heap.size∧z.cell? ⟨X.heap.size,0,none⟩=some (.int .i64 8)) Z.drew:=⟨Nat.le_refl _,r0⟩
  refine wp_region_held_drew (S:=fun z:World=>Z.heap.size≤z.heap.size∧z.cell? ⟨X.heap.size,0,none⟩=some (.int .i64 8)) (by kernel_rfl) hS0 (fun hS=>?_)
  clear hS0
  refine tH 0 hS ?_
  try simp only [lA,lB,lC,Act.put,lD,lE,lF]
  refine tH 1 hS ?_ (hy:=by (intro w hw;obtain ⟨_,s0⟩:=hw;go_simp;try with_reducible rfl))
  try simp only [lA,lB,lC,Act.put,lD,lE,lF]
  refine tH 2 hS ?_
  try simp only [lA,lB,lC,Act.put,lD,lE,lF]
  refine tH 3 hS ?_
  try simp only [lA,lB,lC,Act.put,lD,lE,lF]
  refine tH 4 hS ?_
  try simp only [lA,lB,lC,Act.put,lD,lE,lF]
  refine tH 5 hS ?_ (hy:=by (intro w hw;obtain ⟨_,s0⟩:=hw;go_simp;try with_reducible rfl))
  try simp only [lA,lB,lC,Act.put,lD,lE,lF]
  refine tH 6 hS ?_
  try simp only [lA,lB,lC,Act.put,lD,lE,lF]
  refine tH 7 hS ?_
  try simp only [lA,lB,lC,Act.put,lD,lE,lF]
  refine tH 8 hS ?_
  try simp only [lA,lB,lC,Act.put,lD,lE,lF]
  refine tH 9 hS ?_
  try simp only [lA,lB,lC,Act.put,lD,lE,lF]
  refine tH 10 hS ?_ (hy:=by (intro w hw;obtain ⟨_,s0⟩:=hw;go_simp;try with_reducible rfl))
  try simp only [lA,lB,lC,Act.put,lD,lE,lF]
  refine tH 11 hS ?_
  try simp only [lA,lB,lC,Act.put,lD,lE,lF]
  refine tH 12 hS ?_
  try simp only [lA,lB,lC,Act.put,lD,lE,lF]
  refine tH 13 hS ?_
  try simp only [lA,lB,lC,Act.put,lD,lE,lF]
  refine sH 14 hS ?_
  try simp only [lA,lB,lC,Act.put,lD,lE,lF]
  refine sH 15 hS ?_
  try simp only [lA,lB,lC,Act.put,lD,lE,lF]
  refine sH 16 hS ?_
  try simp only [lA,lB,lC,Act.put,lD,lE,lF]
  refine sH 17 hS ?_
  try simp only [lA,lB,lC,Act.put,lD,lE,lF]
  refine sH 18 hS ?_
  try simp only [lA,lB,lC,Act.put,lD,lE,lF]
  refine sH 19 hS ?_
  try simp only [lA,lB,lC,Act.put,lD,lE,lF]
  refine sH 20 hS ?_
  try simp only [lA,lB,lC,Act.put,lD,lE,lF]
  refine sH 21 hS ?_
  try simp only [lA,lB,lC,Act.put,lD,lE,lF]
  refine sH 22 hS ?_
  try simp only [lA,lB,lC,Act.put,lD,lE,lF]
  refine sH 23 hS ?_
  try simp only [lA,lB,lC,Act.put,lD,lE,lF]
  refine sH 24 hS ?_
  try simp only [lA,lB,lC,Act.put,lD,lE,lF]
  refine tH 25 hS ?_
  try simp only [lA,lB,lC,Act.put,lD,lE,lF]
  refine wpAnyH_done (by kernel_rfl) ?_ _
  clear hS
  go_wp2_with fail
  refine (G.out _ g c HBY.out.drew (HOY.out.below ((Below.refl _ Z).drew))).mono ?_
  rintro e y ⟨rfl,u,hch,hr⟩
  clear y0 y1
  have HDN:=hid (done_of hch hr)
  clear hch hr r0 r1 r2 r3 r4 r5 r6 r7 r8 r9
  go_wp2_with fail
  refine HDN.out.mono ?_
  rintro e z ⟨⟨x,n,rfl⟩,hq⟩
  have HQF:=hid hq
  clear hq
  go_wp2
  go_ret2
  exact HQF.out
end
section
variable (v:RV) (B:Nat) (w:World) (h:v.At w B)
include h
theorem refTake2 (R:RV→Prop) (hd:v.dead=false) (hk:v.kp=3∨v.kp=5) (b:List UInt8) (hbn:b.length≤10000000) (place agreed last lc lt:Int) (s:List UInt8) (ls:List Ln) (hU:unpackR b=some ⟨2,0,0,place,agreed,last,⟨lc,lt,s⟩,ls⟩) (hf1:(0:Int)≠v.me)
    (H:∀ z g c,Below w.heap.size w z→OwnLines w z g c ls→Calls Tryz.prog 104 #[.pointer (some ⟨B,0,none⟩),.agg #[.int .i64 2,.int .i64 0,.int .i64 0,.int .i64 place,.int .i64 agreed,.int .i64 last,.int .i64 lc,.int .i64 lt,.string ⟨s.toArray⟩,.slice (g.map fun k=>⟨k,0,none⟩) ls.length c]] z fun e y=>e=.returned (.tuple #[])∧∃ u,RChg w y B v u∧R u) :
    Calls Tryz.prog 63 #[.pointer (some ⟨B,0,none⟩),.string ⟨b.toArray⟩] w (DoneRet w B v R):=by
  have HU:Hid (∀ z,Calls Tryz.prog 97 #[.string ⟨b.toArray⟩] z fun e w'=>∃ g c,e=.returned (.tuple #[.agg #[.int .i64 2,.int .i64 0,.int .i64 0,.int .i64 place,.int .i64 agreed,.int .i64 last,.int .i64 lc,.int .i64 lt,.string ⟨s.toArray⟩,.slice (g.map fun k=>⟨k,0,none⟩) ls.length c],.int .i64 0])∧OwnLines z w' g c ls∧Below z.heap.size z w'):=fun z=>(refUnpack_any b z (Nat.le_trans hbn (by decide))).mono (by
    rintro e w' ⟨g,c,he,ho,hb⟩
    obtain ⟨u1,u2⟩:=un_yes hU
    rw [u1] at he ho
    rw [u2] at he
    exact ⟨g,c,he,ho,hb⟩)
  have HV:=hid h
  have c5:w.cell? ⟨B,5,none⟩=some (.bool false):=by rw [← hd];exact cell_of_heap h.blk 5
  have G:=hid H
  have e1:((0:Int) == v.me)=false:=by rw [beq_eq_false_iff_ne];exact hf1
  have e2:(v.kp≤(0:Int))↔False:=iff_false_intro (by omega)
  have e3:v.kp≠0:=by omega
  clear h hd hU H hk hf1
  go_enter Tryz.func63,Tryz.ntmps63
  go_wp2_with fail
  refine (HU.out _).mono ?_
  rintro e X ⟨g,c,rfl,ho,hb1⟩
  have HB:=hid (hb1.alloc hb1.size (.cells #[.int .i64 2,.int .i64 0,.int .i64 0,.int .i64 place,.int .i64 agreed,.int .i64 last,.int .i64 lc,.int .i64 lt,.string ⟨s.toArray⟩,.slice (g.map fun k=>⟨k,0,none⟩) ls.length c] 30))
  have HO:=hid (ho.below ((Below.refl _ X).alloc (Nat.le_refl _) (.cells #[.int .i64 2,.int .i64 0,.int .i64 0,.int .i64 place,.int .i64 agreed,.int .i64 last,.int .i64 lc,.int .i64 lt,.string ⟨s.toArray⟩,.slice (g.map fun k=>⟨k,0,none⟩) ls.length c] 30)))
  have HQ:Hid (Box X.heap.size (.int .i64 2) (.int .i64 0) (.int .i64 0) (.int .i64 place) (.int .i64 agreed) (.int .i64 last) (.int .i64 lc) (.int .i64 lt) (.string ⟨s.toArray⟩) (.slice (g.map fun k=>⟨k,0,none⟩) ls.length c) (X.alloc (.cells #[.int .i64 2,.int .i64 0,.int .i64 0,.int .i64 place,.int .i64 agreed,.int .i64 last,.int .i64 lc,.int .i64 lt,.string ⟨s.toArray⟩,.slice (g.map fun k=>⟨k,0,none⟩) ls.length c] 30))):=heap_alloc_new X _
  clear hb1 ho c5 HU
  go_wp2
  generalize X.alloc (.cells #[.int .i64 2,.int .i64 0,.int .i64 0,.int .i64 place,.int .i64 agreed,.int .i64 last,.int .i64 lc,.int .i64 lt,.string ⟨s.toArray⟩,.slice (g.map fun k=>⟨k,0,none⟩) ls.length c] 30)=Y at *
  have HA:=hid (HV.out.below HB.out)
  have y0:Y.cell? ⟨B,0,none⟩=some (.int .i64 v.kp):=cell_of_heap HA.out.blk 0
  have y1:Y.cell? ⟨B,1,none⟩=some (.int .i64 v.me):=cell_of_heap HA.out.blk 1
  obtain ⟨r0,r1,r2,r3,r4,r5,r6,r7,r8,r9⟩:=box_cells HQ.out
  go_still_tail 17,(by kernel_rfl)
  go_wp2
  have HBY:=hid HB.out.drew
  have HQY:=hid (Box.drew HQ.out)
  have HOY:=hid (HO.out.below ((Below.refl _ Y).drew))
  clear HB HQ HA HO r0 r1 r2 r3 r4 r5 r6 r7 r8 r9 y0 y1
  generalize Y.drew=Z at *
  have HAZ:=hid (HV.out.below HBY.out)
  have y0:Z.cell? ⟨B,0,none⟩=some (.int .i64 v.kp):=cell_of_heap HAZ.out.blk 0
  have y1:Z.cell? ⟨B,1,none⟩=some (.int .i64 v.me):=cell_of_heap HAZ.out.blk 1
  obtain ⟨r0,r1,r2,r3,r4,r5,r6,r7,r8,r9⟩:=box_cells HQY.out
  go_still_tail 25,(by kernel_rfl)
  go_wp2_with fail
  refine (G.out _ g c HBY.out.drew (HOY.out.below ((Below.refl _ Z).drew))).mono ?_
  rintro e y ⟨rfl,u,hch,hr⟩
  clear y0 y1
  have HDN:=hid (done_of hch hr)
  clear hch hr r0 r1 r2 r3 r4 r5 r6 r7 r8 r9
  go_wp2_with fail
  refine HDN.out.mono ?_
  rintro e z ⟨⟨x,n,rfl⟩,hq⟩
  have HQF:=hid hq
  clear hq
  go_wp2
  go_ret2
  exact HQF.out
theorem refTake4 (R:RV→Prop) (hd:v.dead=false) (hk:v.kp=3∨v.kp=5) (b:List UInt8) (hbn:b.length≤10000000) (place agreed last lc lt:Int) (s:List UInt8) (ls:List Ln) (hU:unpackR b=some ⟨4,0,0,place,agreed,last,⟨lc,lt,s⟩,ls⟩) (hf1:(0:Int)≠v.me)
    (H:∀ z g c,Below w.heap.size w z→OwnLines w z g c ls→Calls Tryz.prog 104 #[.pointer (some ⟨B,0,none⟩),.agg #[.int .i64 4,.int .i64 0,.int .i64 0,.int .i64 place,.int .i64 agreed,.int .i64 last,.int .i64 lc,.int .i64 lt,.string ⟨s.toArray⟩,.slice (g.map fun k=>⟨k,0,none⟩) ls.length c]] z fun e y=>e=.returned (.tuple #[])∧∃ u,RChg w y B v u∧R u) :
    Calls Tryz.prog 63 #[.pointer (some ⟨B,0,none⟩),.string ⟨b.toArray⟩] w (DoneRet w B v R):=by
  have HU:Hid (∀ z,Calls Tryz.prog 97 #[.string ⟨b.toArray⟩] z fun e w'=>∃ g c,e=.returned (.tuple #[.agg #[.int .i64 4,.int .i64 0,.int .i64 0,.int .i64 place,.int .i64 agreed,.int .i64 last,.int .i64 lc,.int .i64 lt,.string ⟨s.toArray⟩,.slice (g.map fun k=>⟨k,0,none⟩) ls.length c],.int .i64 0])∧OwnLines z w' g c ls∧Below z.heap.size z w'):=fun z=>(refUnpack_any b z (Nat.le_trans hbn (by decide))).mono (by
    rintro e w' ⟨g,c,he,ho,hb⟩
    obtain ⟨u1,u2⟩:=un_yes hU
    rw [u1] at he ho
    rw [u2] at he
    exact ⟨g,c,he,ho,hb⟩)
  have HV:=hid h
  have c5:w.cell? ⟨B,5,none⟩=some (.bool false):=by rw [← hd];exact cell_of_heap h.blk 5
  have G:=hid H
  have e1:((0:Int) == v.me)=false:=by rw [beq_eq_false_iff_ne];exact hf1
  have e2:(v.kp≤(0:Int))↔False:=iff_false_intro (by omega)
  have e3:v.kp≠0:=by omega
  clear h hd hU H hk hf1
  go_enter Tryz.func63,Tryz.ntmps63
  go_wp2_with fail
  refine (HU.out _).mono ?_
  rintro e X ⟨g,c,rfl,ho,hb1⟩
  have HB:=hid (hb1.alloc hb1.size (.cells #[.int .i64 4,.int .i64 0,.int .i64 0,.int .i64 place,.int .i64 agreed,.int .i64 last,.int .i64 lc,.int .i64 lt,.string ⟨s.toArray⟩,.slice (g.map fun k=>⟨k,0,none⟩) ls.length c] 30))
  have HO:=hid (ho.below ((Below.refl _ X).alloc (Nat.le_refl _) (.cells #[.int .i64 4,.int .i64 0,.int .i64 0,.int .i64 place,.int .i64 agreed,.int .i64 last,.int .i64 lc,.int .i64 lt,.string ⟨s.toArray⟩,.slice (g.map fun k=>⟨k,0,none⟩) ls.length c] 30)))
  have HQ:Hid (Box X.heap.size (.int .i64 4) (.int .i64 0) (.int .i64 0) (.int .i64 place) (.int .i64 agreed) (.int .i64 last) (.int .i64 lc) (.int .i64 lt) (.string ⟨s.toArray⟩) (.slice (g.map fun k=>⟨k,0,none⟩) ls.length c) (X.alloc (.cells #[.int .i64 4,.int .i64 0,.int .i64 0,.int .i64 place,.int .i64 agreed,.int .i64 last,.int .i64 lc,.int .i64 lt,.string ⟨s.toArray⟩,.slice (g.map fun k=>⟨k,0,none⟩) ls.length c] 30))):=heap_alloc_new X _
  clear hb1 ho c5 HU
  go_wp2
  generalize X.alloc (.cells #[.int .i64 4,.int .i64 0,.int .i64 0,.int .i64 place,.int .i64 agreed,.int .i64 last,.int .i64 lc,.int .i64 lt,.string ⟨s.toArray⟩,.slice (g.map fun k=>⟨k,0,none⟩) ls.length c] 30)=Y at *
  have HA:=hid (HV.out.below HB.out)
  have y0:Y.cell? ⟨B,0,none⟩=some (.int .i64 v.kp):=cell_of_heap HA.out.blk 0
  have y1:Y.cell? ⟨B,1,none⟩=some (.int .i64 v.me):=cell_of_heap HA.out.blk 1
  obtain ⟨r0,r1,r2,r3,r4,r5,r6,r7,r8,r9⟩:=box_cells HQ.out
  go_still_tail 17,(by kernel_rfl)
  go_wp2
  have HBY:=hid HB.out.drew
  have HQY:=hid (Box.drew HQ.out)
  have HOY:=hid (HO.out.below ((Below.refl _ Y).drew))
  clear HB HQ HA HO r0 r1 r2 r3 r4 r5 r6 r7 r8 r9 y0 y1
  generalize Y.drew=Z at *
  have HAZ:=hid (HV.out.below HBY.out)
  have y0:Z.cell? ⟨B,0,none⟩=some (.int .i64 v.kp):=cell_of_heap HAZ.out.blk 0
  have y1:Z.cell? ⟨B,1,none⟩=some (.int .i64 v.me):=cell_of_heap HAZ.out.blk 1
  obtain ⟨r0,r1,r2,r3,r4,r5,r6,r7,r8,r9⟩:=box_cells HQY.out
  go_still_tail 25,(by kernel_rfl)
  go_wp2_with fail
  refine (G.out _ g c HBY.out.drew (HOY.out.below ((Below.refl _ Z).drew))).mono ?_
  rintro e y ⟨rfl,u,hch,hr⟩
  clear y0 y1
  have HDN:=hid (done_of hch hr)
  clear hch hr r0 r1 r2 r3 r4 r5 r6 r7 r8 r9
  go_wp2_with fail
  refine HDN.out.mono ?_
  rintro e z ⟨⟨x,n,rfl⟩,hq⟩
  have HQF:=hid hq
  clear hq
  go_wp2
  go_ret2
  exact HQF.out
theorem refTake7 (R:RV→Prop) (hd:v.dead=false) (hk:v.kp=3∨v.kp=5) (b:List UInt8) (hbn:b.length≤10000000) (place agreed last lc lt:Int) (s:List UInt8) (ls:List Ln) (hU:unpackR b=some ⟨7,0,0,place,agreed,last,⟨lc,lt,s⟩,ls⟩) (hf1:(0:Int)≠v.me)
    (H:∀ z g c,Below w.heap.size w z→OwnLines w z g c ls→Calls Tryz.prog 104 #[.pointer (some ⟨B,0,none⟩),.agg #[.int .i64 7,.int .i64 0,.int .i64 0,.int .i64 place,.int .i64 agreed,.int .i64 last,.int .i64 lc,.int .i64 lt,.string ⟨s.toArray⟩,.slice (g.map fun k=>⟨k,0,none⟩) ls.length c]] z fun e y=>e=.returned (.tuple #[])∧∃ u,RChg w y B v u∧R u) :
    Calls Tryz.prog 63 #[.pointer (some ⟨B,0,none⟩),.string ⟨b.toArray⟩] w (DoneRet w B v R):=by
  have HU:Hid (∀ z,Calls Tryz.prog 97 #[.string ⟨b.toArray⟩] z fun e w'=>∃ g c,e=.returned (.tuple #[.agg #[.int .i64 7,.int .i64 0,.int .i64 0,.int .i64 place,.int .i64 agreed,.int .i64 last,.int .i64 lc,.int .i64 lt,.string ⟨s.toArray⟩,.slice (g.map fun k=>⟨k,0,none⟩) ls.length c],.int .i64 0])∧OwnLines z w' g c ls∧Below z.heap.size z w'):=fun z=>(refUnpack_any b z (Nat.le_trans hbn (by decide))).mono (by
    rintro e w' ⟨g,c,he,ho,hb⟩
    obtain ⟨u1,u2⟩:=un_yes hU
    rw [u1] at he ho
    rw [u2] at he
    exact ⟨g,c,he,ho,hb⟩)
  have HV:=hid h
  have c5:w.cell? ⟨B,5,none⟩=some (.bool false):=by rw [← hd];exact cell_of_heap h.blk 5
  have G:=hid H
  have e1:((0:Int) == v.me)=false:=by rw [beq_eq_false_iff_ne];exact hf1
  have e2:(v.kp≤(0:Int))↔False:=iff_false_intro (by omega)
  have e3:v.kp≠0:=by omega
  clear h hd hU H hk hf1
  go_enter Tryz.func63,Tryz.ntmps63
  go_wp2_with fail
  refine (HU.out _).mono ?_
  rintro e X ⟨g,c,rfl,ho,hb1⟩
  have HB:=hid (hb1.alloc hb1.size (.cells #[.int .i64 7,.int .i64 0,.int .i64 0,.int .i64 place,.int .i64 agreed,.int .i64 last,.int .i64 lc,.int .i64 lt,.string ⟨s.toArray⟩,.slice (g.map fun k=>⟨k,0,none⟩) ls.length c] 30))
  have HO:=hid (ho.below ((Below.refl _ X).alloc (Nat.le_refl _) (.cells #[.int .i64 7,.int .i64 0,.int .i64 0,.int .i64 place,.int .i64 agreed,.int .i64 last,.int .i64 lc,.int .i64 lt,.string ⟨s.toArray⟩,.slice (g.map fun k=>⟨k,0,none⟩) ls.length c] 30)))
  have HQ:Hid (Box X.heap.size (.int .i64 7) (.int .i64 0) (.int .i64 0) (.int .i64 place) (.int .i64 agreed) (.int .i64 last) (.int .i64 lc) (.int .i64 lt) (.string ⟨s.toArray⟩) (.slice (g.map fun k=>⟨k,0,none⟩) ls.length c) (X.alloc (.cells #[.int .i64 7,.int .i64 0,.int .i64 0,.int .i64 place,.int .i64 agreed,.int .i64 last,.int .i64 lc,.int .i64 lt,.string ⟨s.toArray⟩,.slice (g.map fun k=>⟨k,0,none⟩) ls.length c] 30))):=heap_alloc_new X _
  clear hb1 ho c5 HU
  go_wp2
  generalize X.alloc (.cells #[.int .i64 7,.int .i64 0,.int .i64 0,.int .i64 place,.int .i64 agreed,.int .i64 last,.int .i64 lc,.int .i64 lt,.string ⟨s.toArray⟩,.slice (g.map fun k=>⟨k,0,none⟩) ls.length c] 30)=Y at *
  have HA:=hid (HV.out.below HB.out)
  have y0:Y.cell? ⟨B,0,none⟩=some (.int .i64 v.kp):=cell_of_heap HA.out.blk 0
  have y1:Y.cell? ⟨B,1,none⟩=some (.int .i64 v.me):=cell_of_heap HA.out.blk 1
  obtain ⟨r0,r1,r2,r3,r4,r5,r6,r7,r8,r9⟩:=box_cells HQ.out
  go_still_tail 17,(by kernel_rfl)
  go_wp2
  have HBY:=hid HB.out.drew
  have HQY:=hid (Box.drew HQ.out)
  have HOY:=hid (HO.out.below ((Below.refl _ Y).drew))
  clear HB HQ HA HO r0 r1 r2 r3 r4 r5 r6 r7 r8 r9 y0 y1
  generalize Y.drew=Z at *
  have HAZ:=hid (HV.out.below HBY.out)
  have y0:Z.cell? ⟨B,0,none⟩=some (.int .i64 v.kp):=cell_of_heap HAZ.out.blk 0
  have y1:Z.cell? ⟨B,1,none⟩=some (.int .i64 v.me):=cell_of_heap HAZ.out.blk 1
  obtain ⟨r0,r1,r2,r3,r4,r5,r6,r7,r8,r9⟩:=box_cells HQY.out
  go_still_tail 25,(by kernel_rfl)
  go_wp2_with fail
  refine (G.out _ g c HBY.out.drew (HOY.out.below ((Below.refl _ Z).drew))).mono ?_
  rintro e y ⟨rfl,u,hch,hr⟩
  clear y0 y1
  have HDN:=hid (done_of hch hr)
  clear hch hr r0 r1 r2 r3 r4 r5 r6 r7 r8 r9
  go_wp2_with fail
  refine HDN.out.mono ?_
  rintro e z ⟨⟨x,n,rfl⟩,hq⟩
  have HQF:=hid hq
  clear hq
  go_wp2
  go_ret2
  exact HQF.out
end
section
variable (v:RV) (B:Nat) (w:World) (h:v.At w B)
include h
theorem refHeardNo (hd:v.dead=false) (b:List UInt8) (hbn:b.length≤10000000) (hU:unpackR b=none) :
    Calls Tryz.prog 63 #[.pointer (some ⟨B,0,none⟩),.string ⟨b.toArray⟩] w (NoRet w 3):=by
  have HU:Hid (∀ z,Calls Tryz.prog 97 #[.string ⟨b.toArray⟩] z fun e w'=>∃ (g:Option Nat) (c:Nat),e=.returned (.tuple #[.agg #[.int .i64 0,.int .i64 0,.int .i64 0,.int .i64 0,.int .i64 0,.int .i64 0,.int .i64 0,.int .i64 0,.string ⟨#[]⟩,.slice (g.map fun k:Nat=>(⟨k,0,none⟩:Addr)) 0 c],.int .i64 3])∧Below z.heap.size z w'):=fun z=>(refUnpack_any b z (Nat.le_trans hbn (by decide))).mono (by
    rintro e w' ⟨g,c,he,ho,hb⟩
    obtain ⟨u1,u2⟩:=un_no hU
    rw [u1] at he ho
    rw [u2] at he
    exact ⟨g,c,he,hb⟩)
  have c5:w.cell? ⟨B,5,none⟩=some (.bool false):=by rw [← hd];exact cell_of_heap h.blk 5
  clear h hd hU
  go_enter Tryz.func63,Tryz.ntmps63
  go_wp2_with fail
  refine (HU.out _).mono ?_
  rintro e X ⟨g,c,rfl,hb1⟩
  have HB:=hid hb1
  clear hb1 c5
  go_wp2
  go_ret2
  exact ⟨rfl,HB.out.alloc HB.out.size _⟩
theorem refHeardDead (hd:v.dead=true) (x:Value) :
    Calls Tryz.prog 63 #[.pointer (some ⟨B,0,none⟩),x] w (NoRet w 5):=by
  have c5:w.cell? ⟨B,5,none⟩=some (.bool true):=by rw [← hd];exact cell_of_heap h.blk 5
  clear h hd
  go_enter Tryz.func63,Tryz.ntmps63
  go_wp2
  go_ret2
  exact ⟨rfl,Below.refl _ _⟩
theorem refHeard9 (hd:v.dead=false) (b:List UInt8) (hbn:b.length≤10000000) (frm view place agreed last lc lt:Int) (s:List UInt8) (ls:List Ln) (hU:unpackR b=some ⟨9,frm,view,place,agreed,last,⟨lc,lt,s⟩,ls⟩) :
    Calls Tryz.prog 63 #[.pointer (some ⟨B,0,none⟩),.string ⟨b.toArray⟩] w (NoRet w 3):=by
  have HU:Hid (∀ z,Calls Tryz.prog 97 #[.string ⟨b.toArray⟩] z fun e w'=>∃ g c,e=.returned (.tuple #[.agg #[.int .i64 9,.int .i64 frm,.int .i64 view,.int .i64 place,.int .i64 agreed,.int .i64 last,.int .i64 lc,.int .i64 lt,.string ⟨s.toArray⟩,.slice (g.map fun k=>⟨k,0,none⟩) ls.length c],.int .i64 0])∧OwnLines z w' g c ls∧Below z.heap.size z w'):=fun z=>(refUnpack_any b z (Nat.le_trans hbn (by decide))).mono (by
    rintro e w' ⟨g,c,he,ho,hb⟩
    obtain ⟨u1,u2⟩:=un_yes hU
    rw [u1] at he ho
    rw [u2] at he
    exact ⟨g,c,he,ho,hb⟩)
  have HV:=hid h
  have c5:w.cell? ⟨B,5,none⟩=some (.bool false):=by rw [← hd];exact cell_of_heap h.blk 5
  clear h hd hU
  go_enter Tryz.func63,Tryz.ntmps63
  go_wp2_with fail
  refine (HU.out _).mono ?_
  rintro e X ⟨g,c,rfl,ho,hb1⟩
  have HB:=hid (hb1.alloc hb1.size (.cells #[.int .i64 9,.int .i64 frm,.int .i64 view,.int .i64 place,.int .i64 agreed,.int .i64 last,.int .i64 lc,.int .i64 lt,.string ⟨s.toArray⟩,.slice (g.map fun k=>⟨k,0,none⟩) ls.length c] 30))
  have HO:=hid (ho.below ((Below.refl _ X).alloc (Nat.le_refl _) (.cells #[.int .i64 9,.int .i64 frm,.int .i64 view,.int .i64 place,.int .i64 agreed,.int .i64 last,.int .i64 lc,.int .i64 lt,.string ⟨s.toArray⟩,.slice (g.map fun k=>⟨k,0,none⟩) ls.length c] 30)))
  have HQ:Hid (Box X.heap.size (.int .i64 9) (.int .i64 frm) (.int .i64 view) (.int .i64 place) (.int .i64 agreed) (.int .i64 last) (.int .i64 lc) (.int .i64 lt) (.string ⟨s.toArray⟩) (.slice (g.map fun k=>⟨k,0,none⟩) ls.length c) (X.alloc (.cells #[.int .i64 9,.int .i64 frm,.int .i64 view,.int .i64 place,.int .i64 agreed,.int .i64 last,.int .i64 lc,.int .i64 lt,.string ⟨s.toArray⟩,.slice (g.map fun k=>⟨k,0,none⟩) ls.length c] 30))):=heap_alloc_new X _
  clear hb1 ho c5 HU
  go_wp2
  go_ret2
  exact ⟨rfl,HB.out⟩
theorem refHeardSay (R:RV→Prop) (hd:v.dead=false) (b:List UInt8) (hbn:b.length≤10000000) (frm view place agreed last lc lt:Int) (s:List UInt8) (ls:List Ln) (hU:unpackR b=some ⟨1,frm,view,place,agreed,last,⟨lc,lt,s⟩,ls⟩)
    (H:∀ z,Below w.heap.size w z→Calls Tryz.prog 102 #[.pointer (some ⟨B,0,none⟩),.agg #[.int .i64 lc,.int .i64 lt,.string ⟨s.toArray⟩]] z fun e y=>e=.returned (.tuple #[])∧∃ u,RChg w y B v u∧R u) :
    Calls Tryz.prog 63 #[.pointer (some ⟨B,0,none⟩),.string ⟨b.toArray⟩] w (DoneRet w B v R):=by
  have HU:Hid (∀ z,Calls Tryz.prog 97 #[.string ⟨b.toArray⟩] z fun e w'=>∃ g c,e=.returned (.tuple #[.agg #[.int .i64 1,.int .i64 frm,.int .i64 view,.int .i64 place,.int .i64 agreed,.int .i64 last,.int .i64 lc,.int .i64 lt,.string ⟨s.toArray⟩,.slice (g.map fun k=>⟨k,0,none⟩) ls.length c],.int .i64 0])∧OwnLines z w' g c ls∧Below z.heap.size z w'):=fun z=>(refUnpack_any b z (Nat.le_trans hbn (by decide))).mono (by
    rintro e w' ⟨g,c,he,ho,hb⟩
    obtain ⟨u1,u2⟩:=un_yes hU
    rw [u1] at he ho
    rw [u2] at he
    exact ⟨g,c,he,ho,hb⟩)
  have HV:=hid h
  have c5:w.cell? ⟨B,5,none⟩=some (.bool false):=by rw [← hd];exact cell_of_heap h.blk 5
  have G:=hid H
  clear h hd hU H
  go_enter Tryz.func63,Tryz.ntmps63
  go_wp2_with fail
  refine (HU.out _).mono ?_
  rintro e X ⟨g,c,rfl,ho,hb1⟩
  have HB:=hid (hb1.alloc hb1.size (.cells #[.int .i64 1,.int .i64 frm,.int .i64 view,.int .i64 place,.int .i64 agreed,.int .i64 last,.int .i64 lc,.int .i64 lt,.string ⟨s.toArray⟩,.slice (g.map fun k=>⟨k,0,none⟩) ls.length c] 30))
  have HO:=hid (ho.below ((Below.refl _ X).alloc (Nat.le_refl _) (.cells #[.int .i64 1,.int .i64 frm,.int .i64 view,.int .i64 place,.int .i64 agreed,.int .i64 last,.int .i64 lc,.int .i64 lt,.string ⟨s.toArray⟩,.slice (g.map fun k=>⟨k,0,none⟩) ls.length c] 30)))
  have HQ:Hid (Box X.heap.size (.int .i64 1) (.int .i64 frm) (.int .i64 view) (.int .i64 place) (.int .i64 agreed) (.int .i64 last) (.int .i64 lc) (.int .i64 lt) (.string ⟨s.toArray⟩) (.slice (g.map fun k=>⟨k,0,none⟩) ls.length c) (X.alloc (.cells #[.int .i64 1,.int .i64 frm,.int .i64 view,.int .i64 place,.int .i64 agreed,.int .i64 last,.int .i64 lc,.int .i64 lt,.string ⟨s.toArray⟩,.slice (g.map fun k=>⟨k,0,none⟩) ls.length c] 30))):=heap_alloc_new X _
  clear hb1 ho c5 HU
  obtain ⟨r0,r1,r2,r3,r4,r5,r6,r7,r8,r9⟩:=box_cells HQ.out
  go_wp2_with fail
  refine (G.out _ HB.out).mono ?_
  rintro e y ⟨rfl,u,hch,hr⟩
  have HDN:=hid (done_of hch hr)
  clear hch hr r0 r1 r2 r3 r4 r5 r6 r7 r8 r9
  go_wp2_with fail
  refine HDN.out.mono ?_
  rintro e z ⟨⟨x,n,rfl⟩,hq⟩
  have HQF:=hid hq
  clear hq
  go_wp2
  go_ret2
  exact HQF.out
end
section
variable (v:RV) (B:Nat) (w:World) (h:v.At w B)
include h
theorem refRej1 (hd:v.dead=false) (b:List UInt8) (hbn:b.length≤10000000) (kd place agreed last lc lt:Int) (s:List UInt8) (ls:List Ln) (hU:unpackR b=some ⟨kd,v.me,0,place,agreed,last,⟨lc,lt,s⟩,ls⟩) (h1:kd≠1) (h9:kd≠9) :
    Calls Tryz.prog 63 #[.pointer (some ⟨B,0,none⟩),.string ⟨b.toArray⟩] w (NoRet w 3):=by
  have HU:Hid (∀ z,Calls Tryz.prog 97 #[.string ⟨b.toArray⟩] z fun e w'=>∃ g c,e=.returned (.tuple #[.agg #[.int .i64 kd,.int .i64 v.me,.int .i64 0,.int .i64 place,.int .i64 agreed,.int .i64 last,.int .i64 lc,.int .i64 lt,.string ⟨s.toArray⟩,.slice (g.map fun k=>⟨k,0,none⟩) ls.length c],.int .i64 0])∧OwnLines z w' g c ls∧Below z.heap.size z w'):=fun z=>(refUnpack_any b z (Nat.le_trans hbn (by decide))).mono (by
    rintro e w' ⟨g,c,he,ho,hb⟩
    obtain ⟨u1,u2⟩:=un_yes hU
    rw [u1] at he ho
    rw [u2] at he
    exact ⟨g,c,he,ho,hb⟩)
  have HV:=hid h
  have c5:w.cell? ⟨B,5,none⟩=some (.bool false):=by rw [← hd];exact cell_of_heap h.blk 5
  have k1:(kd == 1)=false:=by rw [beq_eq_false_iff_ne];exact h1
  have k9:(kd == 9)=false:=by rw [beq_eq_false_iff_ne];exact h9
  clear h hd hU
  go_enter Tryz.func63,Tryz.ntmps63
  go_wp2_with fail
  refine (HU.out _).mono ?_
  rintro e X ⟨g,c,rfl,ho,hb1⟩
  have HB:=hid (hb1.alloc hb1.size (.cells #[.int .i64 kd,.int .i64 v.me,.int .i64 0,.int .i64 place,.int .i64 agreed,.int .i64 last,.int .i64 lc,.int .i64 lt,.string ⟨s.toArray⟩,.slice (g.map fun k=>⟨k,0,none⟩) ls.length c] 30))
  have HO:=hid (ho.below ((Below.refl _ X).alloc (Nat.le_refl _) (.cells #[.int .i64 kd,.int .i64 v.me,.int .i64 0,.int .i64 place,.int .i64 agreed,.int .i64 last,.int .i64 lc,.int .i64 lt,.string ⟨s.toArray⟩,.slice (g.map fun k=>⟨k,0,none⟩) ls.length c] 30)))
  have HQ:Hid (Box X.heap.size (.int .i64 kd) (.int .i64 v.me) (.int .i64 0) (.int .i64 place) (.int .i64 agreed) (.int .i64 last) (.int .i64 lc) (.int .i64 lt) (.string ⟨s.toArray⟩) (.slice (g.map fun k=>⟨k,0,none⟩) ls.length c) (X.alloc (.cells #[.int .i64 kd,.int .i64 v.me,.int .i64 0,.int .i64 place,.int .i64 agreed,.int .i64 last,.int .i64 lc,.int .i64 lt,.string ⟨s.toArray⟩,.slice (g.map fun k=>⟨k,0,none⟩) ls.length c] 30))):=heap_alloc_new X _
  clear hb1 ho c5 HU
  go_wp2
  generalize X.alloc (.cells #[.int .i64 kd,.int .i64 v.me,.int .i64 0,.int .i64 place,.int .i64 agreed,.int .i64 last,.int .i64 lc,.int .i64 lt,.string ⟨s.toArray⟩,.slice (g.map fun k=>⟨k,0,none⟩) ls.length c] 30)=Y at *
  have HA:=hid (HV.out.below HB.out)
  have y0:Y.cell? ⟨B,0,none⟩=some (.int .i64 v.kp):=cell_of_heap HA.out.blk 0
  have y1:Y.cell? ⟨B,1,none⟩=some (.int .i64 v.me):=cell_of_heap HA.out.blk 1
  obtain ⟨r0,r1,r2,r3,r4,r5,r6,r7,r8,r9⟩:=box_cells HQ.out
  have hS0:(fun z:World=>z.cell? ⟨X.heap.size,1,none⟩=some (.int .i64 v.me)∧z.cell? ⟨B,1,none⟩=some (.int .i64 v.me)) Y.drew:=⟨r1,y1⟩
  refine wp_region_held_drew (S:=fun z:World=>z.cell? ⟨X.heap.size,1,none⟩=some (.int .i64 v.me)∧z.cell? ⟨B,1,none⟩=some (.int .i64 v.me)) (by kernel_rfl) hS0 (fun hS=>?_)
  clear hS0
  refine tH 0 hS ?_
  try simp only [lA,lB,lC,Act.put,lD,lE,lF]
  refine tH 1 hS ?_ (hy:=by (intro w hw;obtain ⟨s0,s1⟩:=hw;go_simp;try with_reducible rfl))
  try simp only [lA,lB,lC,Act.put,lD,lE,lF]
  refine tH 2 hS ?_
  try simp only [lA,lB,lC,Act.put,lD,lE,lF]
  refine tH 3 hS ?_
  try simp only [lA,lB,lC,Act.put,lD,lE,lF]
  refine tH 4 hS ?_
  try simp only [lA,lB,lC,Act.put,lD,lE,lF]
  refine tH 5 hS ?_
  try simp only [lA,lB,lC,Act.put,lD,lE,lF]
  refine tH 6 hS ?_ (hy:=by (intro w hw;obtain ⟨s0,s1⟩:=hw;go_simp;try with_reducible rfl))
  try simp only [lA,lB,lC,Act.put,lD,lE,lF]
  refine tH 7 hS ?_
  try simp only [lA,lB,lC,Act.put,lD,lE,lF]
  refine tH 8 hS ?_
  try simp only [lA,lB,lC,Act.put,lD,lE,lF]
  refine sH 9 hS ?_
  try simp only [lA,lB,lC,Act.put,lD,lE,lF]
  refine sH 10 hS ?_
  try simp only [lA,lB,lC,Act.put,lD,lE,lF]
  refine sH 11 hS ?_
  try simp only [lA,lB,lC,Act.put,lD,lE,lF]
  refine sH 12 hS ?_
  try simp only [lA,lB,lC,Act.put,lD,lE,lF]
  refine sH 13 hS ?_
  try simp only [lA,lB,lC,Act.put,lD,lE,lF]
  refine sH 14 hS ?_
  try simp only [lA,lB,lC,Act.put,lD,lE,lF]
  refine sH 15 hS ?_
  try simp only [lA,lB,lC,Act.put,lD,lE,lF]
  refine sH 16 hS ?_
  try simp only [lA,lB,lC,Act.put,lD,lE,lF]
  refine tH 17 hS ?_
  try simp only [lA,lB,lC,Act.put,lD,lE,lF]
  refine wpAnyH_done (by kernel_rfl) ?_ _
  clear hS
  go_wp2
  go_ret2
  exact ⟨rfl,HB.out.drew⟩
end
section
variable (v:RV) (B:Nat) (w:World) (h:v.At w B)
include h
theorem refRej2 (hd:v.dead=false) (b:List UInt8) (hbn:b.length≤10000000) (kd frm place agreed last lc lt:Int) (s:List UInt8) (ls:List Ln) (hU:unpackR b=some ⟨kd,frm,0,place,agreed,last,⟨lc,lt,s⟩,ls⟩) (h1:kd≠1) (h9:kd≠9) (hf1:frm≠v.me) (hf2:v.kp≤frm) :
    Calls Tryz.prog 63 #[.pointer (some ⟨B,0,none⟩),.string ⟨b.toArray⟩] w (NoRet w 3):=by
  have HU:Hid (∀ z,Calls Tryz.prog 97 #[.string ⟨b.toArray⟩] z fun e w'=>∃ g c,e=.returned (.tuple #[.agg #[.int .i64 kd,.int .i64 frm,.int .i64 0,.int .i64 place,.int .i64 agreed,.int .i64 last,.int .i64 lc,.int .i64 lt,.string ⟨s.toArray⟩,.slice (g.map fun k=>⟨k,0,none⟩) ls.length c],.int .i64 0])∧OwnLines z w' g c ls∧Below z.heap.size z w'):=fun z=>(refUnpack_any b z (Nat.le_trans hbn (by decide))).mono (by
    rintro e w' ⟨g,c,he,ho,hb⟩
    obtain ⟨u1,u2⟩:=un_yes hU
    rw [u1] at he ho
    rw [u2] at he
    exact ⟨g,c,he,ho,hb⟩)
  have HV:=hid h
  have c5:w.cell? ⟨B,5,none⟩=some (.bool false):=by rw [← hd];exact cell_of_heap h.blk 5
  have k1:(kd == 1)=false:=by rw [beq_eq_false_iff_ne];exact h1
  have k9:(kd == 9)=false:=by rw [beq_eq_false_iff_ne];exact h9
  have e1:(frm == v.me)=false:=by rw [beq_eq_false_iff_ne];exact hf1
  have e2:(v.kp≤frm)↔True:=iff_true_intro hf2
  clear h hd hU hf1
  go_enter Tryz.func63,Tryz.ntmps63
  go_wp2_with fail
  refine (HU.out _).mono ?_
  rintro e X ⟨g,c,rfl,ho,hb1⟩
  have HB:=hid (hb1.alloc hb1.size (.cells #[.int .i64 kd,.int .i64 frm,.int .i64 0,.int .i64 place,.int .i64 agreed,.int .i64 last,.int .i64 lc,.int .i64 lt,.string ⟨s.toArray⟩,.slice (g.map fun k=>⟨k,0,none⟩) ls.length c] 30))
  have HO:=hid (ho.below ((Below.refl _ X).alloc (Nat.le_refl _) (.cells #[.int .i64 kd,.int .i64 frm,.int .i64 0,.int .i64 place,.int .i64 agreed,.int .i64 last,.int .i64 lc,.int .i64 lt,.string ⟨s.toArray⟩,.slice (g.map fun k=>⟨k,0,none⟩) ls.length c] 30)))
  have HQ:Hid (Box X.heap.size (.int .i64 kd) (.int .i64 frm) (.int .i64 0) (.int .i64 place) (.int .i64 agreed) (.int .i64 last) (.int .i64 lc) (.int .i64 lt) (.string ⟨s.toArray⟩) (.slice (g.map fun k=>⟨k,0,none⟩) ls.length c) (X.alloc (.cells #[.int .i64 kd,.int .i64 frm,.int .i64 0,.int .i64 place,.int .i64 agreed,.int .i64 last,.int .i64 lc,.int .i64 lt,.string ⟨s.toArray⟩,.slice (g.map fun k=>⟨k,0,none⟩) ls.length c] 30))):=heap_alloc_new X _
  clear hb1 ho c5 HU
  go_wp2
  generalize X.alloc (.cells #[.int .i64 kd,.int .i64 frm,.int .i64 0,.int .i64 place,.int .i64 agreed,.int .i64 last,.int .i64 lc,.int .i64 lt,.string ⟨s.toArray⟩,.slice (g.map fun k=>⟨k,0,none⟩) ls.length c] 30)=Y at *
  have HA:=hid (HV.out.below HB.out)
  have y0:Y.cell? ⟨B,0,none⟩=some (.int .i64 v.kp):=cell_of_heap HA.out.blk 0
  have y1:Y.cell? ⟨B,1,none⟩=some (.int .i64 v.me):=cell_of_heap HA.out.blk 1
  obtain ⟨r0,r1,r2,r3,r4,r5,r6,r7,r8,r9⟩:=box_cells HQ.out
  go_still_tail 17,(by kernel_rfl)
  go_wp2
  go_ret2
  exact ⟨rfl,HB.out.drew⟩
end
end
end Go.Proofs.YtolififimldmlaaGreat
