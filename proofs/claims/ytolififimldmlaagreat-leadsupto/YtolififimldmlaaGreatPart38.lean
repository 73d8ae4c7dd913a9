import Derived.Test.YtolififimldmlaaGreatPart37
set_option linter.unusedVariables false
set_option linter.unusedSimpArgs false
set_option maxRecDepth 100000
set_option maxHeartbeats 16000000
namespace Go.Proofs.YtolififimldmlaaGreat
section
open Go.RowKit
attribute [local go_sem ↓] Go.wp_at_zero Go.wp_at_succ
section
variable (v:RV) (B:Nat) (w:World) (h:v.At w B)
include h
theorem refHeard2 (P:World→Prop) (hl:v.Lead) (hme:¬ 0=v.me) (frm place agreed last lc lt:Int) (s:List UInt8) (a:Option Addr) (fl cap:Nat)
    (H:∀ z,Below w.heap.size w z→Calls Tryz.prog 153 #[.pointer (some ⟨B,0,none⟩),.agg #[.int .i64 2,.int .i64 frm,.int .i64 0,.int .i64 place,.int .i64 agreed,.int .i64 last,.int .i64 lc,.int .i64 lt,.string ⟨s.toArray⟩,.slice a fl cap]] z fun e y=>e=.returned (.tuple #[])∧P y) :
    Calls Tryz.prog 104 #[.pointer (some ⟨B,0,none⟩),.agg #[.int .i64 2,.int .i64 frm,.int .i64 0,.int .i64 place,.int .i64 agreed,.int .i64 last,.int .i64 lc,.int .i64 lt,.string ⟨s.toArray⟩,.slice a fl cap]] w fun e y=>e=.returned (.tuple #[])∧P y:=by
  have HI:Hid (∀ z,Below w.heap.size w z→Calls Tryz.prog 105 #[.pointer (some ⟨B,0,none⟩)] z fun e w'=>e=.returned (.bool true)∧Below z.heap.size z w'):=fun z hz=>by
    have:=refIn v B z (h.below hz)
    rw [hl.view,hl.last] at this
    exact this
  have HD:Hid (∀ z,Below w.heap.size w z→Calls Tryz.prog 106 #[.pointer (some ⟨B,0,none⟩)] z fun e w'=>e=.returned (.bool false)∧Below z.heap.size z w'):=fun z hz=>by
    have:=refLeads v B z (h.below hz) hl.kp hl.view
    rw [decide_eq_false hme] at this
    exact this
  have HV:=hid h
  have HL:=hid hl
  have G:=hid H
  have HB:=hid ((Below.refl _ w).alloc (Nat.le_refl _) (.cells #[.int .i64 2,.int .i64 frm,.int .i64 0,.int .i64 place,.int .i64 agreed,.int .i64 last,.int .i64 lc,.int .i64 lt,.string ⟨s.toArray⟩,.slice a fl cap] 30))
  have HQ:=hid (heap_alloc_new w (.cells #[.int .i64 2,.int .i64 frm,.int .i64 0,.int .i64 place,.int .i64 agreed,.int .i64 last,.int .i64 lc,.int .i64 lt,.string ⟨s.toArray⟩,.slice a fl cap] 30))
  have HA:=hid (h.below HB.out)
  clear h hl H hme
  go_enter Tryz.func104,Tryz.ntmps104
  go_wp2
  generalize w.alloc (.cells #[.int .i64 2,.int .i64 frm,.int .i64 0,.int .i64 place,.int .i64 agreed,.int .i64 last,.int .i64 lc,.int .i64 lt,.string ⟨s.toArray⟩,.slice a fl cap] 30)=X at *
  have x7:X.cell? ⟨B,7,none⟩=some (.int .i64 0):=by rw [← HL.out.view];exact cell_of_heap HA.out.blk 7
  obtain ⟨r0,r1,r2,r3,r4,r5,r6,r7,r8,r9⟩:=box_cells HQ.out
  go_still_tail 7,(by kernel_rfl)
  go_wp2
  have HBY:=hid HB.out.drew
  have HQY:=hid (Box.drew HQ.out)
  clear HB HQ HA r0 r1 r2 r3 r4 r5 r6 r7 r8 r9 x7
  generalize X.drew=Y at *
  have HAY:=hid (HV.out.below HBY.out)
  have x7:Y.cell? ⟨B,7,none⟩=some (.int .i64 0):=by rw [← HL.out.view];exact cell_of_heap HAY.out.blk 7
  obtain ⟨r0,r1,r2,r3,r4,r5,r6,r7,r8,r9⟩:=box_cells HQY.out
  go_still_tail 7,(by kernel_rfl)
  go_wp2_with fail
  have HBZ:=hid HBY.out.drew
  have HQZ:=hid (Box.drew HQY.out)
  clear HBY HQY HAY r0 r1 r2 r3 r4 r5 r6 r7 r8 r9 x7
  generalize Y.drew=Z at *
  refine (HI.out _ HBZ.out).mono ?_
  rintro e Z1 ⟨rfl,hb1⟩
  have HB1:=hid (HBZ.out.trans (hb1.mono HBZ.out.size))
  have HQ1:=hid (Box.below HQZ.out hb1)
  clear hb1 HBZ HQZ
  go_wp2_with fail
  refine (HD.out _ HB1.out).mono ?_
  rintro e Z2 ⟨rfl,hb2⟩
  have HB2:=hid (HB1.out.trans (hb2.mono HB1.out.size))
  have HQ2:=hid (Box.below HQ1.out hb2)
  clear hb2 HB1 HQ1 HI HD
  obtain ⟨r0,r1,r2,r3,r4,r5,r6,r7,r8,r9⟩:=box_cells HQ2.out
  go_wp2_with fail
  refine (G.out _ HB2.out).mono ?_
  rintro e y ⟨rfl,hp⟩
  have HP:=hid hp
  clear hp
  go_wp2
  go_end0
  exact ⟨rfl,HP.out⟩
theorem refHeard4 (P:World→Prop) (hl:v.Lead) (hme:¬ 0=v.me) (frm place agreed last lc lt:Int) (s:List UInt8) (a:Option Addr) (fl cap:Nat)
    (H:∀ z,Below w.heap.size w z→Calls Tryz.prog 153 #[.pointer (some ⟨B,0,none⟩),.agg #[.int .i64 4,.int .i64 frm,.int .i64 0,.int .i64 place,.int .i64 agreed,.int .i64 last,.int .i64 lc,.int .i64 lt,.string ⟨s.toArray⟩,.slice a fl cap]] z fun e y=>e=.returned (.tuple #[])∧P y) :
    Calls Tryz.prog 104 #[.pointer (some ⟨B,0,none⟩),.agg #[.int .i64 4,.int .i64 frm,.int .i64 0,.int .i64 place,.int .i64 agreed,.int .i64 last,.int .i64 lc,.int .i64 lt,.string ⟨s.toArray⟩,.slice a fl cap]] w fun e y=>e=.returned (.tuple #[])∧P y:=by
  have HI:Hid (∀ z,Below w.heap.size w z→Calls Tryz.prog 105 #[.pointer (some ⟨B,0,none⟩)] z fun e w'=>e=.returned (.bool true)∧Below z.heap.size z w'):=fun z hz=>by
    have:=refIn v B z (h.below hz)
    rw [hl.view,hl.last] at this
    exact this
  have HD:Hid (∀ z,Below w.heap.size w z→Calls Tryz.prog 106 #[.pointer (some ⟨B,0,none⟩)] z fun e w'=>e=.returned (.bool false)∧Below z.heap.size z w'):=fun z hz=>by
    have:=refLeads v B z (h.below hz) hl.kp hl.view
    rw [decide_eq_false hme] at this
    exact this
  have HV:=hid h
  have HL:=hid hl
  have G:=hid H
  have HB:=hid ((Below.refl _ w).alloc (Nat.le_refl _) (.cells #[.int .i64 4,.int .i64 frm,.int .i64 0,.int .i64 place,.int .i64 agreed,.int .i64 last,.int .i64 lc,.int .i64 lt,.string ⟨s.toArray⟩,.slice a fl cap] 30))
  have HQ:=hid (heap_alloc_new w (.cells #[.int .i64 4,.int .i64 frm,.int .i64 0,.int .i64 place,.int .i64 agreed,.int .i64 last,.int .i64 lc,.int .i64 lt,.string ⟨s.toArray⟩,.slice a fl cap] 30))
  have HA:=hid (h.below HB.out)
  clear h hl H hme
  go_enter Tryz.func104,Tryz.ntmps104
  go_wp2
  generalize w.alloc (.cells #[.int .i64 4,.int .i64 frm,.int .i64 0,.int .i64 place,.int .i64 agreed,.int .i64 last,.int .i64 lc,.int .i64 lt,.string ⟨s.toArray⟩,.slice a fl cap] 30)=X at *
  have x7:X.cell? ⟨B,7,none⟩=some (.int .i64 0):=by rw [← HL.out.view];exact cell_of_heap HA.out.blk 7
  obtain ⟨r0,r1,r2,r3,r4,r5,r6,r7,r8,r9⟩:=box_cells HQ.out
  go_still_tail 7,(by kernel_rfl)
  go_wp2
  have HBY:=hid HB.out.drew
  have HQY:=hid (Box.drew HQ.out)
  clear HB HQ HA r0 r1 r2 r3 r4 r5 r6 r7 r8 r9 x7
  generalize X.drew=Y at *
  have HAY:=hid (HV.out.below HBY.out)
  have x7:Y.cell? ⟨B,7,none⟩=some (.int .i64 0):=by rw [← HL.out.view];exact cell_of_heap HAY.out.blk 7
  obtain ⟨r0,r1,r2,r3,r4,r5,r6,r7,r8,r9⟩:=box_cells HQY.out
  go_still_tail 7,(by kernel_rfl)
  go_wp2_with fail
  have HBZ:=hid HBY.out.drew
  have HQZ:=hid (Box.drew HQY.out)
  clear HBY HQY HAY r0 r1 r2 r3 r4 r5 r6 r7 r8 r9 x7
  generalize Y.drew=Z at *
  refine (HI.out _ HBZ.out).mono ?_
  rintro e Z1 ⟨rfl,hb1⟩
  have HB1:=hid (HBZ.out.trans (hb1.mono HBZ.out.size))
  have HQ1:=hid (Box.below HQZ.out hb1)
  clear hb1 HBZ HQZ
  go_wp2_with fail
  refine (HD.out _ HB1.out).mono ?_
  rintro e Z2 ⟨rfl,hb2⟩
  have HB2:=hid (HB1.out.trans (hb2.mono HB1.out.size))
  have HQ2:=hid (Box.below HQ1.out hb2)
  clear hb2 HB1 HQ1 HI HD
  obtain ⟨r0,r1,r2,r3,r4,r5,r6,r7,r8,r9⟩:=box_cells HQ2.out
  go_wp2_with fail
  refine (G.out _ HB2.out).mono ?_
  rintro e y ⟨rfl,hp⟩
  have HP:=hid hp
  clear hp
  go_wp2
  go_end0
  exact ⟨rfl,HP.out⟩
end
section
variable (v:RV) (B:Nat) (w:World) (h:v.At w B)
include h
theorem refHeard3 (P:World→Prop) (hl:v.Lead) (hme:v.me=0) (frm place agreed last lc lt:Int) (s:List UInt8) (a:Option Addr) (fl cap:Nat)
    (H:∀ z,Below w.heap.size w z→Calls Tryz.prog 154 #[.pointer (some ⟨B,0,none⟩),.agg #[.int .i64 3,.int .i64 frm,.int .i64 0,.int .i64 place,.int .i64 agreed,.int .i64 last,.int .i64 lc,.int .i64 lt,.string ⟨s.toArray⟩,.slice a fl cap]] z fun e y=>e=.returned (.tuple #[])∧P y) :
    Calls Tryz.prog 104 #[.pointer (some ⟨B,0,none⟩),.agg #[.int .i64 3,.int .i64 frm,.int .i64 0,.int .i64 place,.int .i64 agreed,.int .i64 last,.int .i64 lc,.int .i64 lt,.string ⟨s.toArray⟩,.slice a fl cap]] w fun e y=>e=.returned (.tuple #[])∧P y:=by
  have HI:Hid (∀ z,Below w.heap.size w z→Calls Tryz.prog 105 #[.pointer (some ⟨B,0,none⟩)] z fun e w'=>e=.returned (.bool true)∧Below z.heap.size z w'):=fun z hz=>by
    have:=refIn v B z (h.below hz)
    rw [hl.view,hl.last] at this
    exact this
  have HD:Hid (∀ z,Below w.heap.size w z→Calls Tryz.prog 106 #[.pointer (some ⟨B,0,none⟩)] z fun e w'=>e=.returned (.bool true)∧Below z.heap.size z w'):=fun z hz=>by
    have:=refLeads v B z (h.below hz) hl.kp hl.view
    rw [decide_eq_true hme.symm] at this
    exact this
  have HV:=hid h
  have HL:=hid hl
  have G:=hid H
  have HB:=hid ((Below.refl _ w).alloc (Nat.le_refl _) (.cells #[.int .i64 3,.int .i64 frm,.int .i64 0,.int .i64 place,.int .i64 agreed,.int .i64 last,.int .i64 lc,.int .i64 lt,.string ⟨s.toArray⟩,.slice a fl cap] 30))
  have HQ:=hid (heap_alloc_new w (.cells #[.int .i64 3,.int .i64 frm,.int .i64 0,.int .i64 place,.int .i64 agreed,.int .i64 last,.int .i64 lc,.int .i64 lt,.string ⟨s.toArray⟩,.slice a fl cap] 30))
  have HA:=hid (h.below HB.out)
  clear h hl H hme
  go_enter Tryz.func104,Tryz.ntmps104
  go_wp2
  generalize w.alloc (.cells #[.int .i64 3,.int .i64 frm,.int .i64 0,.int .i64 place,.int .i64 agreed,.int .i64 last,.int .i64 lc,.int .i64 lt,.string ⟨s.toArray⟩,.slice a fl cap] 30)=X at *
  have x7:X.cell? ⟨B,7,none⟩=some (.int .i64 0):=by rw [← HL.out.view];exact cell_of_heap HA.out.blk 7
  obtain ⟨r0,r1,r2,r3,r4,r5,r6,r7,r8,r9⟩:=box_cells HQ.out
  go_still_tail 7,(by kernel_rfl)
  go_wp2
  have HBY:=hid HB.out.drew
  have HQY:=hid (Box.drew HQ.out)
  clear HB HQ HA r0 r1 r2 r3 r4 r5 r6 r7 r8 r9 x7
  generalize X.drew=Y at *
  have HAY:=hid (HV.out.below HBY.out)
  have x7:Y.cell? ⟨B,7,none⟩=some (.int .i64 0):=by rw [← HL.out.view];exact cell_of_heap HAY.out.blk 7
  obtain ⟨r0,r1,r2,r3,r4,r5,r6,r7,r8,r9⟩:=box_cells HQY.out
  go_still_tail 7,(by kernel_rfl)
  go_wp2_with fail
  have HBZ:=hid HBY.out.drew
  have HQZ:=hid (Box.drew HQY.out)
  clear HBY HQY HAY r0 r1 r2 r3 r4 r5 r6 r7 r8 r9 x7
  generalize Y.drew=Z at *
  refine (HI.out _ HBZ.out).mono ?_
  rintro e Z1 ⟨rfl,hb1⟩
  have HB1:=hid (HBZ.out.trans (hb1.mono HBZ.out.size))
  have HQ1:=hid (Box.below HQZ.out hb1)
  clear hb1 HBZ HQZ
  go_wp2_with fail
  refine (HD.out _ HB1.out).mono ?_
  rintro e Z2 ⟨rfl,hb2⟩
  have HB2:=hid (HB1.out.trans (hb2.mono HB1.out.size))
  have HQ2:=hid (Box.below HQ1.out hb2)
  clear hb2 HB1 HQ1 HI HD
  obtain ⟨r0,r1,r2,r3,r4,r5,r6,r7,r8,r9⟩:=box_cells HQ2.out
  go_wp2_with fail
  refine (G.out _ HB2.out).mono ?_
  rintro e y ⟨rfl,hp⟩
  have HP:=hid hp
  clear hp
  go_wp2
  go_end0
  exact ⟨rfl,HP.out⟩
theorem refHeard7 (P:World→Prop) (hl:v.Lead) (hme:¬ 0=v.me) (frm place agreed last lc lt:Int) (s:List UInt8) (a:Option Addr) (fl cap:Nat)
    (H:∀ z,Below w.heap.size w z→Calls Tryz.prog 157 #[.pointer (some ⟨B,0,none⟩),.agg #[.int .i64 7,.int .i64 frm,.int .i64 0,.int .i64 place,.int .i64 agreed,.int .i64 last,.int .i64 lc,.int .i64 lt,.string ⟨s.toArray⟩,.slice a fl cap]] z fun e y=>e=.returned (.tuple #[])∧P y) :
    Calls Tryz.prog 104 #[.pointer (some ⟨B,0,none⟩),.agg #[.int .i64 7,.int .i64 frm,.int .i64 0,.int .i64 place,.int .i64 agreed,.int .i64 last,.int .i64 lc,.int .i64 lt,.string ⟨s.toArray⟩,.slice a fl cap]] w fun e y=>e=.returned (.tuple #[])∧P y:=by
  have HI:Hid (∀ z,Below w.heap.size w z→Calls Tryz.prog 105 #[.pointer (some ⟨B,0,none⟩)] z fun e w'=>e=.returned (.bool true)∧Below z.heap.size z w'):=fun z hz=>by
    have:=refIn v B z (h.below hz)
    rw [hl.view,hl.last] at this
    exact this
  have HD:Hid (∀ z,Below w.heap.size w z→Calls Tryz.prog 106 #[.pointer (some ⟨B,0,none⟩)] z fun e w'=>e=.returned (.bool false)∧Below z.heap.size z w'):=fun z hz=>by
    have:=refLeads v B z (h.below hz) hl.kp hl.view
    rw [decide_eq_false hme] at this
    exact this
  have HV:=hid h
  have HL:=hid hl
  have G:=hid H
  have HB:=hid ((Below.refl _ w).alloc (Nat.le_refl _) (.cells #[.int .i64 7,.int .i64 frm,.int .i64 0,.int .i64 place,.int .i64 agreed,.int .i64 last,.int .i64 lc,.int .i64 lt,.string ⟨s.toArray⟩,.slice a fl cap] 30))
  have HQ:=hid (heap_alloc_new w (.cells #[.int .i64 7,.int .i64 frm,.int .i64 0,.int .i64 place,.int .i64 agreed,.int .i64 last,.int .i64 lc,.int .i64 lt,.string ⟨s.toArray⟩,.slice a fl cap] 30))
  have HA:=hid (h.below HB.out)
  clear h hl H hme
  go_enter Tryz.func104,Tryz.ntmps104
  go_wp2
  generalize w.alloc (.cells #[.int .i64 7,.int .i64 frm,.int .i64 0,.int .i64 place,.int .i64 agreed,.int .i64 last,.int .i64 lc,.int .i64 lt,.string ⟨s.toArray⟩,.slice a fl cap] 30)=X at *
  have x7:X.cell? ⟨B,7,none⟩=some (.int .i64 0):=by rw [← HL.out.view];exact cell_of_heap HA.out.blk 7
  obtain ⟨r0,r1,r2,r3,r4,r5,r6,r7,r8,r9⟩:=box_cells HQ.out
  go_still_tail 7,(by kernel_rfl)
  go_wp2
  have HBY:=hid HB.out.drew
  have HQY:=hid (Box.drew HQ.out)
  clear HB HQ HA r0 r1 r2 r3 r4 r5 r6 r7 r8 r9 x7
  generalize X.drew=Y at *
  have HAY:=hid (HV.out.below HBY.out)
  have x7:Y.cell? ⟨B,7,none⟩=some (.int .i64 0):=by rw [← HL.out.view];exact cell_of_heap HAY.out.blk 7
  obtain ⟨r0,r1,r2,r3,r4,r5,r6,r7,r8,r9⟩:=box_cells HQY.out
  go_still_tail 7,(by kernel_rfl)
  go_wp2_with fail
  have HBZ:=hid HBY.out.drew
  have HQZ:=hid (Box.drew HQY.out)
  clear HBY HQY HAY r0 r1 r2 r3 r4 r5 r6 r7 r8 r9 x7
  generalize Y.drew=Z at *
  refine (HI.out _ HBZ.out).mono ?_
  rintro e Z1 ⟨rfl,hb1⟩
  have HB1:=hid (HBZ.out.trans (hb1.mono HBZ.out.size))
  have HQ1:=hid (Box.below HQZ.out hb1)
  clear hb1 HBZ HQZ
  go_wp2_with fail
  refine (HD.out _ HB1.out).mono ?_
  rintro e Z2 ⟨rfl,hb2⟩
  have HB2:=hid (HB1.out.trans (hb2.mono HB1.out.size))
  have HQ2:=hid (Box.below HQ1.out hb2)
  clear hb2 HB1 HQ1 HI HD
  obtain ⟨r0,r1,r2,r3,r4,r5,r6,r7,r8,r9⟩:=box_cells HQ2.out
  go_wp2_with fail
  refine (G.out _ HB2.out).mono ?_
  rintro e y ⟨rfl,hp⟩
  have HP:=hid hp
  clear hp
  go_wp2
  go_end0
  exact ⟨rfl,HP.out⟩
end
section
variable (v:RV) (B:Nat) (w:World) (h:v.At w B)
include h
theorem refHeard3n (P:World→Prop) (hl:v.Lead) (hme:¬ 0=v.me) (frm place agreed last lc lt:Int) (s:List UInt8) (a:Option Addr) (fl cap:Nat)
    (H:∀ z,Below w.heap.size w z→P z) :
    Calls Tryz.prog 104 #[.pointer (some ⟨B,0,none⟩),.agg #[.int .i64 3,.int .i64 frm,.int .i64 0,.int .i64 place,.int .i64 agreed,.int .i64 last,.int .i64 lc,.int .i64 lt,.string ⟨s.toArray⟩,.slice a fl cap]] w fun e y=>e=.returned (.tuple #[])∧P y:=by
  have HI:Hid (∀ z,Below w.heap.size w z→Calls Tryz.prog 105 #[.pointer (some ⟨B,0,none⟩)] z fun e w'=>e=.returned (.bool true)∧Below z.heap.size z w'):=fun z hz=>by
    have:=refIn v B z (h.below hz)
    rw [hl.view,hl.last] at this
    exact this
  have HD:Hid (∀ z,Below w.heap.size w z→Calls Tryz.prog 106 #[.pointer (some ⟨B,0,none⟩)] z fun e w'=>e=.returned (.bool false)∧Below z.heap.size z w'):=fun z hz=>by
    have:=refLeads v B z (h.below hz) hl.kp hl.view
    rw [decide_eq_false hme] at this
    exact this
  have HV:=hid h
  have HL:=hid hl
  have G:=hid H
  have HB:=hid ((Below.refl _ w).alloc (Nat.le_refl _) (.cells #[.int .i64 3,.int .i64 frm,.int .i64 0,.int .i64 place,.int .i64 agreed,.int .i64 last,.int .i64 lc,.int .i64 lt,.string ⟨s.toArray⟩,.slice a fl cap] 30))
  have HQ:=hid (heap_alloc_new w (.cells #[.int .i64 3,.int .i64 frm,.int .i64 0,.int .i64 place,.int .i64 agreed,.int .i64 last,.int .i64 lc,.int .i64 lt,.string ⟨s.toArray⟩,.slice a fl cap] 30))
  have HA:=hid (h.below HB.out)
  clear h hl H hme
  go_enter Tryz.func104,Tryz.ntmps104
  go_wp2
  generalize w.alloc (.cells #[.int .i64 3,.int .i64 frm,.int .i64 0,.int .i64 place,.int .i64 agreed,.int .i64 last,.int .i64 lc,.int .i64 lt,.string ⟨s.toArray⟩,.slice a fl cap] 30)=X at *
  have x7:X.cell? ⟨B,7,none⟩=some (.int .i64 0):=by rw [← HL.out.view];exact cell_of_heap HA.out.blk 7
  obtain ⟨r0,r1,r2,r3,r4,r5,r6,r7,r8,r9⟩:=box_cells HQ.out
  go_still_tail 7,(by kernel_rfl)
  go_wp2
  have HBY:=hid HB.out.drew
  have HQY:=hid (Box.drew HQ.out)
  clear HB HQ HA r0 r1 r2 r3 r4 r5 r6 r7 r8 r9 x7
  generalize X.drew=Y at *
  have HAY:=hid (HV.out.below HBY.out)
  have x7:Y.cell? ⟨B,7,none⟩=some (.int .i64 0):=by rw [← HL.out.view];exact cell_of_heap HAY.out.blk 7
  obtain ⟨r0,r1,r2,r3,r4,r5,r6,r7,r8,r9⟩:=box_cells HQY.out
  go_still_tail 7,(by kernel_rfl)
  go_wp2_with fail
  have HBZ:=hid HBY.out.drew
  have HQZ:=hid (Box.drew HQY.out)
  clear HBY HQY HAY r0 r1 r2 r3 r4 r5 r6 r7 r8 r9 x7
  generalize Y.drew=Z at *
  refine (HI.out _ HBZ.out).mono ?_
  rintro e Z1 ⟨rfl,hb1⟩
  have HB1:=hid (HBZ.out.trans (hb1.mono HBZ.out.size))
  have HQ1:=hid (Box.below HQZ.out hb1)
  clear hb1 HBZ HQZ
  go_wp2_with fail
  refine (HD.out _ HB1.out).mono ?_
  rintro e Z2 ⟨rfl,hb2⟩
  have HB2:=hid (HB1.out.trans (hb2.mono HB1.out.size))
  have HQ2:=hid (Box.below HQ1.out hb2)
  clear hb2 HB1 HQ1 HI HD
  obtain ⟨r0,r1,r2,r3,r4,r5,r6,r7,r8,r9⟩:=box_cells HQ2.out
  go_wp2
  go_end0
  exact ⟨rfl,G.out _ HB2.out⟩
theorem refHeard8n (P:World→Prop) (hl:v.Lead) (hme:¬ 0=v.me) (frm place agreed last lc lt:Int) (s:List UInt8) (a:Option Addr) (fl cap:Nat)
    (H:∀ z,Below w.heap.size w z→P z) :
    Calls Tryz.prog 104 #[.pointer (some ⟨B,0,none⟩),.agg #[.int .i64 8,.int .i64 frm,.int .i64 0,.int .i64 place,.int .i64 agreed,.int .i64 last,.int .i64 lc,.int .i64 lt,.string ⟨s.toArray⟩,.slice a fl cap]] w fun e y=>e=.returned (.tuple #[])∧P y:=by
  have HI:Hid (∀ z,Below w.heap.size w z→Calls Tryz.prog 105 #[.pointer (some ⟨B,0,none⟩)] z fun e w'=>e=.returned (.bool true)∧Below z.heap.size z w'):=fun z hz=>by
    have:=refIn v B z (h.below hz)
    rw [hl.view,hl.last] at this
    exact this
  have HD:Hid (∀ z,Below w.heap.size w z→Calls Tryz.prog 106 #[.pointer (some ⟨B,0,none⟩)] z fun e w'=>e=.returned (.bool false)∧Below z.heap.size z w'):=fun z hz=>by
    have:=refLeads v B z (h.below hz) hl.kp hl.view
    rw [decide_eq_false hme] at this
    exact this
  have HV:=hid h
  have HL:=hid hl
  have G:=hid H
  have HB:=hid ((Below.refl _ w).alloc (Nat.le_refl _) (.cells #[.int .i64 8,.int .i64 frm,.int .i64 0,.int .i64 place,.int .i64 agreed,.int .i64 last,.int .i64 lc,.int .i64 lt,.string ⟨s.toArray⟩,.slice a fl cap] 30))
  have HQ:=hid (heap_alloc_new w (.cells #[.int .i64 8,.int .i64 frm,.int .i64 0,.int .i64 place,.int .i64 agreed,.int .i64 last,.int .i64 lc,.int .i64 lt,.string ⟨s.toArray⟩,.slice a fl cap] 30))
  have HA:=hid (h.below HB.out)
  clear h hl H hme
  go_enter Tryz.func104,Tryz.ntmps104
  go_wp2
  generalize w.alloc (.cells #[.int .i64 8,.int .i64 frm,.int .i64 0,.int .i64 place,.int .i64 agreed,.int .i64 last,.int .i64 lc,.int .i64 lt,.string ⟨s.toArray⟩,.slice a fl cap] 30)=X at *
  have x7:X.cell? ⟨B,7,none⟩=some (.int .i64 0):=by rw [← HL.out.view];exact cell_of_heap HA.out.blk 7
  obtain ⟨r0,r1,r2,r3,r4,r5,r6,r7,r8,r9⟩:=box_cells HQ.out
  go_still_tail 7,(by kernel_rfl)
  go_wp2
  have HBY:=hid HB.out.drew
  have HQY:=hid (Box.drew HQ.out)
  clear HB HQ HA r0 r1 r2 r3 r4 r5 r6 r7 r8 r9 x7
  generalize X.drew=Y at *
  have HAY:=hid (HV.out.below HBY.out)
  have x7:Y.cell? ⟨B,7,none⟩=some (.int .i64 0):=by rw [← HL.out.view];exact cell_of_heap HAY.out.blk 7
  obtain ⟨r0,r1,r2,r3,r4,r5,r6,r7,r8,r9⟩:=box_cells HQY.out
  go_still_tail 7,(by kernel_rfl)
  go_wp2_with fail
  have HBZ:=hid HBY.out.drew
  have HQZ:=hid (Box.drew HQY.out)
  clear HBY HQY HAY r0 r1 r2 r3 r4 r5 r6 r7 r8 r9 x7
  generalize Y.drew=Z at *
  refine (HI.out _ HBZ.out).mono ?_
  rintro e Z1 ⟨rfl,hb1⟩
  have HB1:=hid (HBZ.out.trans (hb1.mono HBZ.out.size))
  have HQ1:=hid (Box.below HQZ.out hb1)
  clear hb1 HBZ HQZ
  go_wp2_with fail
  refine (HD.out _ HB1.out).mono ?_
  rintro e Z2 ⟨rfl,hb2⟩
  have HB2:=hid (HB1.out.trans (hb2.mono HB1.out.size))
  have HQ2:=hid (Box.below HQ1.out hb2)
  clear hb2 HB1 HQ1 HI HD
  obtain ⟨r0,r1,r2,r3,r4,r5,r6,r7,r8,r9⟩:=box_cells HQ2.out
  go_wp2
  go_end0
  exact ⟨rfl,G.out _ HB2.out⟩
end
section
variable (v:RV) (B:Nat) (w:World) (h:v.At w B)
include h
theorem refHeard8 (P:World→Prop) (hl:v.Lead) (hme:v.me=0) (frm place agreed last lc lt:Int) (s:List UInt8) (a:Option Addr) (fl cap:Nat)
    (hos:v.os.length≤1000) (H:∀ y g c,RChg w y B v (v.push ⟨false,frm,packS ⟨7,v.me,v.m.view,0,v.ag,0,Ln.zero,v.m.ls⟩⟩ g c)→P y) :
    Calls Tryz.prog 104 #[.pointer (some ⟨B,0,none⟩),.agg #[.int .i64 8,.int .i64 frm,.int .i64 0,.int .i64 place,.int .i64 agreed,.int .i64 last,.int .i64 lc,.int .i64 lt,.string ⟨s.toArray⟩,.slice a fl cap]] w fun e y=>e=.returned (.tuple #[])∧P y:=by
  have HI:Hid (∀ z,Below w.heap.size w z→Calls Tryz.prog 105 #[.pointer (some ⟨B,0,none⟩)] z fun e w'=>e=.returned (.bool true)∧Below z.heap.size z w'):=fun z hz=>by
    have:=refIn v B z (h.below hz)
    rw [hl.view,hl.last] at this
    exact this
  have HD:Hid (∀ z,Below w.heap.size w z→Calls Tryz.prog 106 #[.pointer (some ⟨B,0,none⟩)] z fun e w'=>e=.returned (.bool true)∧Below z.heap.size z w'):=fun z hz=>by
    have:=refLeads v B z (h.below hz) hl.kp hl.view
    rw [decide_eq_true hme.symm] at this
    exact this
  have HV:=hid h
  have HL:=hid hl
  have G:=hid H
  have HB:=hid ((Below.refl _ w).alloc (Nat.le_refl _) (.cells #[.int .i64 8,.int .i64 frm,.int .i64 0,.int .i64 place,.int .i64 agreed,.int .i64 last,.int .i64 lc,.int .i64 lt,.string ⟨s.toArray⟩,.slice a fl cap] 30))
  have HQ:=hid (heap_alloc_new w (.cells #[.int .i64 8,.int .i64 frm,.int .i64 0,.int .i64 place,.int .i64 agreed,.int .i64 last,.int .i64 lc,.int .i64 lt,.string ⟨s.toArray⟩,.slice a fl cap] 30))
  have HA:=hid (h.below HB.out)
  clear h hl H hme
  go_enter Tryz.func104,Tryz.ntmps104
  go_wp2
  generalize w.alloc (.cells #[.int .i64 8,.int .i64 frm,.int .i64 0,.int .i64 place,.int .i64 agreed,.int .i64 last,.int .i64 lc,.int .i64 lt,.string ⟨s.toArray⟩,.slice a fl cap] 30)=X at *
  have x7:X.cell? ⟨B,7,none⟩=some (.int .i64 0):=by rw [← HL.out.view];exact cell_of_heap HA.out.blk 7
  obtain ⟨r0,r1,r2,r3,r4,r5,r6,r7,r8,r9⟩:=box_cells HQ.out
  go_still_tail 7,(by kernel_rfl)
  go_wp2
  have HBY:=hid HB.out.drew
  have HQY:=hid (Box.drew HQ.out)
  clear HB HQ HA r0 r1 r2 r3 r4 r5 r6 r7 r8 r9 x7
  generalize X.drew=Y at *
  have HAY:=hid (HV.out.below HBY.out)
  have x7:Y.cell? ⟨B,7,none⟩=some (.int .i64 0):=by rw [← HL.out.view];exact cell_of_heap HAY.out.blk 7
  obtain ⟨r0,r1,r2,r3,r4,r5,r6,r7,r8,r9⟩:=box_cells HQY.out
  go_still_tail 7,(by kernel_rfl)
  go_wp2_with fail
  have HBZ:=hid HBY.out.drew
  have HQZ:=hid (Box.drew HQY.out)
  clear HBY HQY HAY r0 r1 r2 r3 r4 r5 r6 r7 r8 r9 x7
  generalize Y.drew=Z at *
  refine (HI.out _ HBZ.out).mono ?_
  rintro e Z1 ⟨rfl,hb1⟩
  have HB1:=hid (HBZ.out.trans (hb1.mono HBZ.out.size))
  have HQ1:=hid (Box.below HQZ.out hb1)
  clear hb1 HBZ HQZ
  go_wp2_with fail
  refine (HD.out _ HB1.out).mono ?_
  rintro e Z2 ⟨rfl,hb2⟩
  have HB2:=hid (HB1.out.trans (hb2.mono HB1.out.size))
  have HQ2:=hid (Box.below HQ1.out hb2)
  clear hb2 HB1 HQ1 HI HD
  obtain ⟨r0,r1,r2,r3,r4,r5,r6,r7,r8,r9⟩:=box_cells HQ2.out
  have HV2:=hid (HV.out.below HB2.out)
  have HBG:Hid (∀ z,Below Z2.heap.size Z2 z→Calls Tryz.prog 152 #[.pointer (some ⟨B,0,none⟩)] z fun e w'=>e=.returned (.agg #[.int .i64 7,.int .i64 0,.int .i64 v.m.view,.int .i64 0,.int .i64 v.ag,.int .i64 0,.int .i64 0,.int .i64 0,.string ⟨#[]⟩,.slice (v.g.map fun k=>⟨k,0,none⟩) v.m.ls.length v.c])∧Below z.heap.size z w'):=fun z hz=>refBegin v B z (HV2.out.below hz)
  have HSD:Hid (∀ z,Below Z2.heap.size Z2 z→Calls Tryz.prog 107 #[.pointer (some ⟨B,0,none⟩),.int .i64 frm,.agg #[.int .i64 7,.int .i64 0,.int .i64 v.m.view,.int .i64 0,.int .i64 v.ag,.int .i64 0,.int .i64 0,.int .i64 0,.string ⟨#[]⟩,.slice (v.g.map fun k=>⟨k,0,none⟩) v.m.ls.length v.c]] z (SentRet z B v ⟨false,frm,packS ⟨7,v.me,v.m.view,0,v.ag,0,Ln.zero,v.m.ls⟩⟩)):=fun z hz =>
    refSend v B z (HV2.out.below hz) frm ⟨7,0,v.m.view,0,v.ag,0,Ln.zero,v.m.ls⟩ _ v.c (HV2.out.below hz).ls (by have:=HL.out.l20;show v.m.ls.length≤_;omega) HV2.out.lc hos _ rfl
  unfold SentRet at HSD
  go_wp2
  have Q1:Hid (Z2.cell? ⟨w.heap.size,1,none⟩=some (.int .i64 frm)):=r1
  clear r0 r1 r2 r3 r4 r5 r6 r7 r8 r9
  have hS0:(fun z:World=>Z2.heap.size≤z.heap.size∧z.cell? ⟨w.heap.size,1,none⟩=some (.int .i64 frm)) Z2.drew:=⟨Nat.le_refl _,Q1.out⟩
  refine wp_region_held_drew (S:=fun z:World=>Z2.heap.size≤z.heap.size∧z.cell? ⟨w.heap.size,1,none⟩=some (.int .i64 frm)) (by kernel_rfl) hS0 (fun hS=>?_)
  clear hS0
  refine tH 0 hS ?_
  try simp only [lA,lB,lC,Act.put,lD,lE,lF]
  refine tH 1 hS ?_
  try simp only [lA,lB,lC,Act.put,lD,lE,lF]
  refine tH 3 hS ?_
  try simp only [lA,lB,lC,Act.put,lD,lE,lF]
  refine tH 2 hS ?_ (hy:=by (intro w hw;obtain ⟨_,s0⟩:=hw;go_simp;try with_reducible rfl))
  try simp only [lA,lB,lC,Act.put,lD,lE,lF]
  refine wpAnyH_ready (rs:=[4]) (by kernel_rfl) (by simp) ?_
  refine AllReadyH.cons rfl (fun K hK=>?_) AllReadyH.nil
  go_simp
  refine (HBG.out _ ((Below.refl _ _).drew)).mono ?_
  rintro e Z3 ⟨rfl,hb3⟩
  have hb23:Below Z2.heap.size Z2 Z3:=((Below.refl _ Z2).drew).trans (hb3.mono (Nat.le_refl _))
  refine hK.out _ _ ⟨hb23.size,(Below.cell hb23 (World.block_lt_of_cell? _ _ Q1.out)).trans Q1.out⟩ (fun hS=>?_)
  clear hK K hb3
  have HB23:=hid hb23
  clear hb23
  refine wpAnyH_ready (rs:=[5]) (by kernel_rfl) (by simp) ?_
  refine AllReadyH.cons rfl (fun K hK=>?_) AllReadyH.nil
  go_simp
  refine (HSD.out _ HB23.out).mono ?_
  rintro e Z4 ⟨rfl,g,c,hch⟩
  have HF:=hid (RChg.of (HB2.out.trans (HB23.out.mono HB2.out.size)) HV.out hch)
  have HQ4:=hid (hch.box (HV2.out.below HB23.out) (Box.below HQ2.out HB23.out))
  have hsz:=Nat.le_trans HB23.out.size hch.tch.size
  clear hch
  refine hK.out _ _ ⟨hsz,(box_cells HQ4.out).2.1⟩ (fun hS=>?_)
  clear hK K
  refine wpAnyH_done (by kernel_rfl) ?_ _
  go_wp2
  go_end0
  exact ⟨rfl,G.out _ g c HF.out⟩
end
def DoneRet (w:World) (B:Nat) (v:RV) (R:RV→Prop) (e:Ending) (y:World):Prop :=
  ∃ u,R u∧e=.returned (.tuple #[if u.dead then .slice none 0 0 else .slice (u.sg.map fun k=>⟨k,0,none⟩) u.os.length u.sc,.int .i64 (if u.dead then 4 else 0)])∧RChg w y B v u.cleared∧OwnOutsR y u.sg u.sc u.os∧∀ k,u.sg=some k→v.sg=some k∨w.heap.size≤k
theorem done_of {w y:World} {B:Nat} {v u:RV} {R:RV→Prop} (h:RChg w y B v u) (hr:R u):Calls Tryz.prog 103 #[.pointer (some ⟨B,0,none⟩)] y fun e z=>(∃ x n,e=.returned (.tuple #[x,.int .i64 n]))∧DoneRet w B v R e z :=
  (refDone u B y h.at_).mono (by
    rintro e z ⟨rfl,h1,h2⟩
    exact ⟨⟨_,_,rfl⟩,u,hr,rfl,h.trans h1,h2,h.sn⟩)
def NoRet (w:World) (n:Int) (e:Ending) (y:World):Prop:=e=.returned (.tuple #[.slice none 0 0,.int .i64 n])∧Below w.heap.size w y
section
variable (v:RV) (B:Nat) (w:World) (h:v.At w B)
include h
theorem refTake3 (R:RV→Prop) (hd:v.dead=false) (hk:v.kp=3∨v.kp=5) (b:List UInt8) (hbn:b.length≤10000000) (frm place agreed last lc lt:Int) (s:List UInt8) (ls:List Ln) (hU:unpackR b=some ⟨3,frm,0,place,agreed,last,⟨lc,lt,s⟩,ls⟩) (hf1:frm≠v.me) (hf2:frm < v.kp)
    (H:∀ z g c,Below w.heap.size w z→OwnLines w z g c ls→Calls Tryz.prog 104 #[.pointer (some ⟨B,0,none⟩),.agg #[.int .i64 3,.int .i64 frm,.int .i64 0,.int .i64 place,.int .i64 agreed,.int .i64 last,.int .i64 lc,.int .i64 lt,.string ⟨s.toArray⟩,.slice (g.map fun k=>⟨k,0,none⟩) ls.length c]] z fun e y=>e=.returned (.tuple #[])∧∃ u,RChg w y B v u∧R u) :
    Calls Tryz.prog 63 #[.pointer (some ⟨B,0,none⟩),.string ⟨b.toArray⟩] w (DoneRet w B v R):=by
  have HU:Hid (∀ z,Calls Tryz.prog 97 #[.string ⟨b.toArray⟩] z fun e w'=>∃ g c,e=.returned (.tuple #[.agg #[.int .i64 3,.int .i64 frm,.int .i64 0,.int .i64 place,.int .i64 agreed,.int .i64 last,.int .i64 lc,.int .i64 lt,.string ⟨s.toArray⟩,.slice (g.map fun k=>⟨k,0,none⟩) ls.length c],.int .i64 0])∧OwnLines z w' g c ls∧Below z.heap.size z w'):=fun z=>(refUnpack_any b z (Nat.le_trans hbn (by decide))).mono (by
    rintro e w' ⟨g,c,he,ho,hb⟩
    obtain ⟨u1,u2⟩:=un_yes hU
    rw [u1] at he ho
    rw [u2] at he
    exact ⟨g,c,he,ho,hb⟩)
  have HV:=hid h
  have c5:w.cell? ⟨B,5,none⟩=some (.bool false):=by rw [← hd];exact cell_of_heap h.blk 5
  have G:=hid H
  have e1:(frm == v.me)=false:=by rw [beq_eq_false_iff_ne];exact hf1
  have e2:(v.kp≤frm)↔False:=iff_false_intro (by omega)
  have e3:v.kp≠0:=by omega
  clear h hd hU H hk hf1 hf2
  go_enter Tryz.func63,Tryz.ntmps63
  go_wp2_with fail
  refine (HU.out _).mono ?_
  rintro e X ⟨g,c,rfl,ho,hb1⟩
  have HB:=hid (hb1.alloc hb1.size (.cells #[.int .i64 3,.int .i64 frm,.int .i64 0,.int .i64 place,.int .i64 agreed,.int .i64 last,.int .i64 lc,.int .i64 lt,.string ⟨s.toArray⟩,.slice (g.map fun k=>⟨k,0,none⟩) ls.length c] 30))
  have HO:=hid (ho.below ((Below.refl _ X).alloc (Nat.le_refl _) (.cells #[.int .i64 3,.int .i64 frm,.int .i64 0,.int .i64 place,.int .i64 agreed,.int .i64 last,.int .i64 lc,.int .i64 lt,.string ⟨s.toArray⟩,.slice (g.map fun k=>⟨k,0,none⟩) ls.length c] 30)))
  have HQ:Hid (Box X.heap.size (.int .i64 3) (.int .i64 frm) (.int .i64 0) (.int .i64 place) (.int .i64 agreed) (.int .i64 last) (.int .i64 lc) (.int .i64 lt) (.string ⟨s.toArray⟩) (.slice (g.map fun k=>⟨k,0,none⟩) ls.length c) (X.alloc (.cells #[.int .i64 3,.int .i64 frm,.int .i64 0,.int .i64 place,.int .i64 agreed,.int .i64 last,.int .i64 lc,.int .i64 lt,.string ⟨s.toArray⟩,.slice (g.map fun k=>⟨k,0,none⟩) ls.length c] 30))):=heap_alloc_new X _
  clear hb1 ho c5 HU
  go_wp2
  generalize X.alloc (.cells #[.int .i64 3,.int .i64 frm,.int .i64 0,.int .i64 place,.int .i64 agreed,.int .i64 last,.int .i64 lc,.int .i64 lt,.string ⟨s.toArray⟩,.slice (g.map fun k=>⟨k,0,none⟩) ls.length c] 30)=Y at *
  have HA:=hid (HV.out.below HB.out)
  have y0:Y.cell? ⟨B,0,none⟩=some (.int .i64 v.kp):=cell_of_heap HA.out.blk 0
  have y1:Y.cell? ⟨B,1,none⟩=some (.int .i64 v.me):=cell_of_heap HA.out.blk 1
  obtain ⟨r0,r1,r2,r3,r4,r5,r6,r7,r8,r9⟩:=box_cells HQ.out
  go_still_tail 17,(by kernel_rfl)
  go_wp2
  have HBY:=hid HB.out.drew
  have HQY:=hid (Box.drew HQ.out)
  have HOY:=hid (HO.out.below ((Below.refl _ Y).drew))
  clear HB HQ HA HO r0 r1 r2 r3 r4 r5 r6 r7 r8 r9 y0 y1
  generalize Y.drew=Z at *
  have HAZ:=hid (HV.out.below HBY.out)
  have y0:Z.cell? ⟨B,0,none⟩=some (.int .i64 v.kp):=cell_of_heap HAZ.out.blk 0
  have y1:Z.cell? ⟨B,1,none⟩=some (.int .i64 v.me):=cell_of_heap HAZ.out.blk 1
  obtain ⟨r0,r1,r2,r3,r4,r5,r6,r7,r8,r9⟩:=box_cells HQY.out
  have hS0:(fun z:World=>Z.heap.size≤z.heap.size∧z.cell? ⟨X.heap.size,0,none⟩=some (.int .i64 3)) Z.drew:=⟨Nat.le_refl _,r0⟩
  refine wp_region_held_drew (S:=fun z:World=>Z.heap.size≤z.heap.size∧z.cell? ⟨X.heap.size,0,none⟩=some (.int .i64 3)) (by kernel_rfl) hS0 (fun hS=>?_)
  clear hS0
  refine tH 0 hS ?_
  try simp only [lA,lB,lC,Act.put,lD,lE,lF]
  refine tH 1 hS ?_ (hy:=by (intro w hw;obtain ⟨_,s0⟩:=hw;go_simp;try with_reducible rfl))
  try simp only [lA,lB,lC,Act.put,lD,lE,lF]
  refine tH 2 hS ?_
  try simp only [lA,lB,lC,Act.put,lD,lE,lF]
  refine tH 3 hS ?_
  try simp only [lA,lB,lC,Act.put,lD,lE,lF]
  refine tH 4 hS ?_
  try simp only [lA,lB,lC,Act.put,lD,lE,lF]
  refine tH 5 hS ?_ (hy:=by (intro w hw;obtain ⟨_,s0⟩:=hw;go_simp;try with_reducible rfl))
  try simp only [lA,lB,lC,Act.put,lD,lE,lF]
  refine tH 6 hS ?_
  try simp only [lA,lB,lC,Act.put,lD,lE,lF]
  refine tH 7 hS ?_
  try simp only [lA,lB,lC,Act.put,lD,lE,lF]
  refine tH 8 hS ?_
  try simp only [lA,lB,lC,Act.put,lD,lE,lF]
  refine tH 9 hS ?_
  try simp only [lA,lB,lC,Act.put,lD,lE,lF]
  refine tH 10 hS ?_ (hy:=by (intro w hw;obtain ⟨_,s0⟩:=hw;go_simp;try with_reducible rfl))
  try simp only [lA,lB,lC,Act.put,lD,lE,lF]
  refine tH 11 hS ?_
  try simp only [lA,lB,lC,Act.put,lD,lE,lF]
  refine tH 12 hS ?_
  try simp only [lA,lB,lC,Act.put,lD,lE,lF]
  refine tH 13 hS ?_
  try simp only [lA,lB,lC,Act.put,lD,lE,lF]
  refine sH 14 hS ?_
  try simp only [lA,lB,lC,Act.put,lD,lE,lF]
  refine sH 15 hS ?_
  try simp only [lA,lB,lC,Act.put,lD,lE,lF]
  refine sH 16 hS ?_
  try simp only [lA,lB,lC,Act.put,lD,lE,lF]
  refine sH 17 hS ?_
  try simp only [lA,lB,lC,Act.put,lD,lE,lF]
  refine sH 18 hS ?_
  try simp only [lA,lB,lC,Act.put,lD,lE,lF]
  refine sH 19 hS ?_
  try simp only [lA,lB,lC,Act.put,lD,lE,lF]
  refine sH 20 hS ?_
  try simp only [lA,lB,lC,Act.put,lD,lE,lF]
  refine sH 21 hS ?_
  try simp only [lA,lB,lC,Act.put,lD,lE,lF]
  refine sH 22 hS ?_
  try simp only [lA,lB,lC,Act.put,lD,lE,lF]
  refine sH 23 hS ?_
  try simp only [lA,lB,lC,Act.put,lD,lE,lF]
  refine sH 24 hS ?_
  try simp only [lA,lB,lC,Act.put,lD,lE,lF]
  refine tH 25 hS ?_
  try simp only [lA,lB,lC,Act.put,lD,lE,lF]
  refine wpAnyH_done (by kernel_rfl) ?_ _
  clear hS
  go_wp2_with fail
  refine (G.out _ g c HBY.out.drew (HOY.out.below ((Below.refl _ Z).drew))).mono ?_
  rintro e y ⟨rfl,u,hch,hr⟩
  clear y0 y1
  have HDN:=hid (done_of hch hr)
  clear hch hr r0 r1 r2 r3 r4 r5 r6 r7 r8 r9
  go_wp2_with fail
  refine HDN.out.mono ?_
  rintro e z ⟨⟨x,n,rfl⟩,hq⟩
  have HQF:=hid hq
  clear hq
  go_wp2
  go_ret2
  exact HQF.out
end
end
end Go.Proofs.YtolififimldmlaaGreat
