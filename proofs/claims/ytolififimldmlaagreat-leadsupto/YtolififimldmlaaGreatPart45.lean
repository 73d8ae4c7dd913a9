import Derived.Test.YtolififimldmlaaGreatPart44
import Derived.Test.YtolififimldmlaaGreatPart42
import Derived.Test.YtolififimldmlaaGreatPart43
set_option linter.unusedVariables false
set_option linter.unusedSimpArgs false
set_option maxRecDepth 100000
set_option maxHeartbeats 16000000
namespace Go.Proofs.YtolififimldmlaaGreat
section
open Go.RowKit
attribute [local go_sem ↓] Go.wp_at_zero Go.wp_at_succ
section
attribute [local go_sem] taPrepareSayFrame taPrepareOf stampedPrepare
theorem hearKeeperOwnPrepare (R:Ending→World→Prop) (v:PV) (B:Nat) (w:World) (h:v.At w B) (fr vw x2 x3 x4 x5:Int) (s:List UInt8) (hvw:vw=v.m.view) (HS:∀ z,Below w.heap.size w z→Calls Tryz.prog 128 #[.pointer (some ⟨B,0,none⟩),.iface 153 (.agg #[.int .i64 fr,.int .i64 vw,.int .i64 x2,.int .i64 x3,.int .i64 x4,.int .i64 x5,.string ⟨s.toArray⟩])] z (SlRet R)) :
    Calls Tryz.prog 82 #[.pointer (some ⟨B,0,none⟩),.iface 153 (.agg #[.int .i64 fr,.int .i64 vw,.int .i64 x2,.int .i64 x3,.int .i64 x4,.int .i64 x5,.string ⟨s.toArray⟩])] w (SlRet R):=by
  have VV:Hid (∀ z,Below w.heap.size w z→Calls Tryz.prog 88 #[.pointer (some ⟨B,0,none⟩)] z fun e w'=>e=.returned (.int .i64 vw)∧Below z.heap.size z w'):=fun z hz=>by rw [hvw];exact viewV v B z (h.below hz)
  have HH:=hid HS
  have l1:¬ (vw < vw):=by omega
  clear HS h hvw
  go_enter Tryz.func82,Tryz.ntmps82
  go_wp2_with fail
  refine (stamped_go fr vw w).mono ?_
  rintro e X0 ⟨rfl,hb0⟩
  have HB0:=hid hb0
  clear hb0
  go_wp2
  obtain ⟨Y,hY⟩:∃ Y,Y=X0.alloc (.cells #[.int .i64 fr,.int .i64 vw] 151):=⟨_,rfl⟩
  rw [← hY]
  have HBY:Hid (Below w.heap.size w Y):=by show Below _ _ _;rw [hY];exact HB0.out.alloc HB0.out.size _
  have HL:Hid (Y.heap[X0.heap.size]?=some (.cells #[.int .i64 fr,.int .i64 vw] 151 (0,0))):=by show _=_;rw [hY];exact heap_alloc_new X0 _
  clear hY
  refine wp_region_held_drew (S:=fun z:World=>z.heap[X0.heap.size]?=some (.cells #[.int .i64 fr,.int .i64 vw] 151 (0,0))) (by kernel_rfl) HL.out (fun hS=>?_)
  refine tH 0 hS ?_
  try simp only [lA,lB,lC,Act.put,lD,lE,lF]
  refine tH 2 hS ?_
  try simp only [lA,lB,lC,Act.put,lD,lE,lF]
  refine tH 1 hS ?_ (hy:=by (intro w hw;have s0:=cell_of_heap hw 0;have s1:=cell_of_heap hw 1;simp only [List.getElem?_toArray,List.getElem?_cons_zero,List.getElem?_cons_succ] at s0 s1;clear hw;go_simp;try with_reducible rfl))
  try simp only [lA,lB,lC,Act.put,lD,lE,lF]
  refine wpAnyH_ready (rs:=[3]) (by kernel_rfl) (by simp) ?_
  refine AllReadyH.cons rfl (fun K hK=>?_) AllReadyH.nil
  go_simp
  refine (VV.out _ HBY.out.drew).mono ?_
  rintro e X1 ⟨rfl,hbf⟩
  have HB1:=hid (HBY.out.drew.trans (hbf.mono HBY.out.size))
  have HL1:=hid ((hbf.block _ (heap_lt HL.out)).trans HL.out)
  clear hbf
  refine hK.out _ _ HL1.out (fun hS=>?_)
  clear hK K
  refine tH 4 hS ?_
  try simp only [lA,lB,lC,Act.put,lD,lE,lF]
  refine tH 5 hS ?_
  try simp only [lA,lB,lC,Act.put,lD,lE,lF]
  refine wpAnyH_done (by kernel_rfl) ?_ _
  clear hS
  go_wp2
  refine wp_region_held_drew (S:=fun z:World=>z.heap[X0.heap.size]?=some (.cells #[.int .i64 fr,.int .i64 vw] 151 (0,0))) (by kernel_rfl) HL1.out (fun hS=>?_)
  refine tH 0 hS ?_
  try simp only [lA,lB,lC,Act.put,lD,lE,lF]
  refine tH 2 hS ?_
  try simp only [lA,lB,lC,Act.put,lD,lE,lF]
  refine tH 1 hS ?_ (hy:=by (intro w hw;have s0:=cell_of_heap hw 0;have s1:=cell_of_heap hw 1;simp only [List.getElem?_toArray,List.getElem?_cons_zero,List.getElem?_cons_succ] at s0 s1;clear hw;go_simp;try with_reducible rfl))
  try simp only [lA,lB,lC,Act.put,lD,lE,lF]
  refine wpAnyH_ready (rs:=[3]) (by kernel_rfl) (by simp) ?_
  refine AllReadyH.cons rfl (fun K hK=>?_) AllReadyH.nil
  go_simp
  refine (VV.out _ HB1.out.drew).mono ?_
  rintro e X2 ⟨rfl,hbf⟩
  have HB2:=hid (HB1.out.drew.trans (hbf.mono HB1.out.size))
  have HL2:=hid ((hbf.block _ (heap_lt HL1.out)).trans HL1.out)
  clear hbf
  refine hK.out _ _ HL2.out (fun hS=>?_)
  clear hK K
  refine tH 4 hS ?_
  try simp only [lA,lB,lC,Act.put,lD,lE,lF]
  refine tH 5 hS ?_
  try simp only [lA,lB,lC,Act.put,lD,lE,lF]
  refine wpAnyH_done (by kernel_rfl) ?_ _
  clear hS VV
  go_wp2_with fail
  refine (HH.out _ HB2.out).mono ?_
  rintro e w1 ⟨⟨a,n,q,rfl⟩,hr⟩
  have HR:=hid hr
  clear hr HH
  go_wp2
  go_ret
  exact ⟨⟨a,n,q,rfl⟩,HR.out⟩
theorem hearPrepareT (R:Ending→World→Prop) (B:Nat) (w:World) (fr vw x2 x3 x4 x5:Int) (s:List UInt8) (HS:∀ z,Below w.heap.size w z→Calls Tryz.prog 82 #[.pointer (some ⟨B,0,none⟩),.iface 153 (.agg #[.int .i64 fr,.int .i64 vw,.int .i64 x2,.int .i64 x3,.int .i64 x4,.int .i64 x5,.string ⟨s.toArray⟩])] z (SlRet R)) :
    Calls Tryz.prog 43 #[.pointer (some ⟨B,0,none⟩),.iface 153 (.agg #[.int .i64 fr,.int .i64 vw,.int .i64 x2,.int .i64 x3,.int .i64 x4,.int .i64 x5,.string ⟨s.toArray⟩])] w (SlRet R):=by
  have HH:=hid HS
  clear HS
  go_enter Tryz.func43,Tryz.ntmps43
  go_wp2_with fail
  refine (HH.out _ (Below.refl _ _)).mono ?_
  rintro e w1 ⟨⟨a,n,q,rfl⟩,hr⟩
  have HR:=hid hr
  clear hr HH
  go_wp2
  go_ret
  exact ⟨⟨a,n,q,rfl⟩,HR.out⟩
end
section
attribute [local go_sem] taBeatSayFrame taBeatOf stampedBeat
theorem hearKeeperOwnBeat (R:Ending→World→Prop) (v:PV) (B:Nat) (w:World) (h:v.At w B) (fr vw x2:Int) (hvw:vw=v.m.view) (HS:∀ z,Below w.heap.size w z→Calls Tryz.prog 128 #[.pointer (some ⟨B,0,none⟩),.iface 156 (.agg #[.int .i64 fr,.int .i64 vw,.int .i64 x2])] z (SlRet R)) :
    Calls Tryz.prog 82 #[.pointer (some ⟨B,0,none⟩),.iface 156 (.agg #[.int .i64 fr,.int .i64 vw,.int .i64 x2])] w (SlRet R):=by
  have VV:Hid (∀ z,Below w.heap.size w z→Calls Tryz.prog 88 #[.pointer (some ⟨B,0,none⟩)] z fun e w'=>e=.returned (.int .i64 vw)∧Below z.heap.size z w'):=fun z hz=>by rw [hvw];exact viewV v B z (h.below hz)
  have HH:=hid HS
  have l1:¬ (vw < vw):=by omega
  clear HS h hvw
  go_enter Tryz.func82,Tryz.ntmps82
  go_wp2_with fail
  refine (stamped_go fr vw w).mono ?_
  rintro e X0 ⟨rfl,hb0⟩
  have HB0:=hid hb0
  clear hb0
  go_wp2
  obtain ⟨Y,hY⟩:∃ Y,Y=X0.alloc (.cells #[.int .i64 fr,.int .i64 vw] 151):=⟨_,rfl⟩
  rw [← hY]
  have HBY:Hid (Below w.heap.size w Y):=by show Below _ _ _;rw [hY];exact HB0.out.alloc HB0.out.size _
  have HL:Hid (Y.heap[X0.heap.size]?=some (.cells #[.int .i64 fr,.int .i64 vw] 151 (0,0))):=by show _=_;rw [hY];exact heap_alloc_new X0 _
  clear hY
  refine wp_region_held_drew (S:=fun z:World=>z.heap[X0.heap.size]?=some (.cells #[.int .i64 fr,.int .i64 vw] 151 (0,0))) (by kernel_rfl) HL.out (fun hS=>?_)
  refine tH 0 hS ?_
  try simp only [lA,lB,lC,Act.put,lD,lE,lF]
  refine tH 2 hS ?_
  try simp only [lA,lB,lC,Act.put,lD,lE,lF]
  refine tH 1 hS ?_ (hy:=by (intro w hw;have s0:=cell_of_heap hw 0;have s1:=cell_of_heap hw 1;simp only [List.getElem?_toArray,List.getElem?_cons_zero,List.getElem?_cons_succ] at s0 s1;clear hw;go_simp;try with_reducible rfl))
  try simp only [lA,lB,lC,Act.put,lD,lE,lF]
  refine wpAnyH_ready (rs:=[3]) (by kernel_rfl) (by simp) ?_
  refine AllReadyH.cons rfl (fun K hK=>?_) AllReadyH.nil
  go_simp
  refine (VV.out _ HBY.out.drew).mono ?_
  rintro e X1 ⟨rfl,hbf⟩
  have HB1:=hid (HBY.out.drew.trans (hbf.mono HBY.out.size))
  have HL1:=hid ((hbf.block _ (heap_lt HL.out)).trans HL.out)
  clear hbf
  refine hK.out _ _ HL1.out (fun hS=>?_)
  clear hK K
  refine tH 4 hS ?_
  try simp only [lA,lB,lC,Act.put,lD,lE,lF]
  refine tH 5 hS ?_
  try simp only [lA,lB,lC,Act.put,lD,lE,lF]
  refine wpAnyH_done (by kernel_rfl) ?_ _
  clear hS
  go_wp2
  refine wp_region_held_drew (S:=fun z:World=>z.heap[X0.heap.size]?=some (.cells #[.int .i64 fr,.int .i64 vw] 151 (0,0))) (by kernel_rfl) HL1.out (fun hS=>?_)
  refine tH 0 hS ?_
  try simp only [lA,lB,lC,Act.put,lD,lE,lF]
  refine tH 2 hS ?_
  try simp only [lA,lB,lC,Act.put,lD,lE,lF]
  refine tH 1 hS ?_ (hy:=by (intro w hw;have s0:=cell_of_heap hw 0;have s1:=cell_of_heap hw 1;simp only [List.getElem?_toArray,List.getElem?_cons_zero,List.getElem?_cons_succ] at s0 s1;clear hw;go_simp;try with_reducible rfl))
  try simp only [lA,lB,lC,Act.put,lD,lE,lF]
  refine wpAnyH_ready (rs:=[3]) (by kernel_rfl) (by simp) ?_
  refine AllReadyH.cons rfl (fun K hK=>?_) AllReadyH.nil
  go_simp
  refine (VV.out _ HB1.out.drew).mono ?_
  rintro e X2 ⟨rfl,hbf⟩
  have HB2:=hid (HB1.out.drew.trans (hbf.mono HB1.out.size))
  have HL2:=hid ((hbf.block _ (heap_lt HL1.out)).trans HL1.out)
  clear hbf
  refine hK.out _ _ HL2.out (fun hS=>?_)
  clear hK K
  refine tH 4 hS ?_
  try simp only [lA,lB,lC,Act.put,lD,lE,lF]
  refine tH 5 hS ?_
  try simp only [lA,lB,lC,Act.put,lD,lE,lF]
  refine wpAnyH_done (by kernel_rfl) ?_ _
  clear hS VV
  go_wp2_with fail
  refine (HH.out _ HB2.out).mono ?_
  rintro e w1 ⟨⟨a,n,q,rfl⟩,hr⟩
  have HR:=hid hr
  clear hr HH
  go_wp2
  go_ret
  exact ⟨⟨a,n,q,rfl⟩,HR.out⟩
theorem hearBeatT (R:Ending→World→Prop) (B:Nat) (w:World) (fr vw x2:Int) (HS:∀ z,Below w.heap.size w z→Calls Tryz.prog 82 #[.pointer (some ⟨B,0,none⟩),.iface 156 (.agg #[.int .i64 fr,.int .i64 vw,.int .i64 x2])] z (SlRet R)) :
    Calls Tryz.prog 43 #[.pointer (some ⟨B,0,none⟩),.iface 156 (.agg #[.int .i64 fr,.int .i64 vw,.int .i64 x2])] w (SlRet R):=by
  have HH:=hid HS
  clear HS
  go_enter Tryz.func43,Tryz.ntmps43
  go_wp2_with fail
  refine (HH.out _ (Below.refl _ _)).mono ?_
  rintro e w1 ⟨⟨a,n,q,rfl⟩,hr⟩
  have HR:=hid hr
  clear hr HH
  go_wp2
  go_ret
  exact ⟨⟨a,n,q,rfl⟩,HR.out⟩
end
section
attribute [local go_sem] taBeginSayFrame taBeginOf stampedBegin
theorem hearKeeperOwnBegin (R:Ending→World→Prop) (v:PV) (B:Nat) (w:World) (h:v.At w B) (fr vw x2:Int) (a0:Option Addr) (n0 c0:Nat) (hvw:vw=v.m.view) (HS:∀ z,Below w.heap.size w z→Calls Tryz.prog 128 #[.pointer (some ⟨B,0,none⟩),.iface 158 (.agg #[.int .i64 fr,.int .i64 vw,.int .i64 x2,.slice a0 n0 c0])] z (SlRet R)) :
    Calls Tryz.prog 82 #[.pointer (some ⟨B,0,none⟩),.iface 158 (.agg #[.int .i64 fr,.int .i64 vw,.int .i64 x2,.slice a0 n0 c0])] w (SlRet R):=by
  have VV:Hid (∀ z,Below w.heap.size w z→Calls Tryz.prog 88 #[.pointer (some ⟨B,0,none⟩)] z fun e w'=>e=.returned (.int .i64 vw)∧Below z.heap.size z w'):=fun z hz=>by rw [hvw];exact viewV v B z (h.below hz)
  have HH:=hid HS
  have l1:¬ (vw < vw):=by omega
  clear HS h hvw
  go_enter Tryz.func82,Tryz.ntmps82
  go_wp2_with fail
  refine (stamped_go fr vw w).mono ?_
  rintro e X0 ⟨rfl,hb0⟩
  have HB0:=hid hb0
  clear hb0
  go_wp2
  obtain ⟨Y,hY⟩:∃ Y,Y=X0.alloc (.cells #[.int .i64 fr,.int .i64 vw] 151):=⟨_,rfl⟩
  rw [← hY]
  have HBY:Hid (Below w.heap.size w Y):=by show Below _ _ _;rw [hY];exact HB0.out.alloc HB0.out.size _
  have HL:Hid (Y.heap[X0.heap.size]?=some (.cells #[.int .i64 fr,.int .i64 vw] 151 (0,0))):=by show _=_;rw [hY];exact heap_alloc_new X0 _
  clear hY
  refine wp_region_held_drew (S:=fun z:World=>z.heap[X0.heap.size]?=some (.cells #[.int .i64 fr,.int .i64 vw] 151 (0,0))) (by kernel_rfl) HL.out (fun hS=>?_)
  refine tH 0 hS ?_
  try simp only [lA,lB,lC,Act.put,lD,lE,lF]
  refine tH 2 hS ?_
  try simp only [lA,lB,lC,Act.put,lD,lE,lF]
  refine tH 1 hS ?_ (hy:=by (intro w hw;have s0:=cell_of_heap hw 0;have s1:=cell_of_heap hw 1;simp only [List.getElem?_toArray,List.getElem?_cons_zero,List.getElem?_cons_succ] at s0 s1;clear hw;go_simp;try with_reducible rfl))
  try simp only [lA,lB,lC,Act.put,lD,lE,lF]
  refine wpAnyH_ready (rs:=[3]) (by kernel_rfl) (by simp) ?_
  refine AllReadyH.cons rfl (fun K hK=>?_) AllReadyH.nil
  go_simp
  refine (VV.out _ HBY.out.drew).mono ?_
  rintro e X1 ⟨rfl,hbf⟩
  have HB1:=hid (HBY.out.drew.trans (hbf.mono HBY.out.size))
  have HL1:=hid ((hbf.block _ (heap_lt HL.out)).trans HL.out)
  clear hbf
  refine hK.out _ _ HL1.out (fun hS=>?_)
  clear hK K
  refine tH 4 hS ?_
  try simp only [lA,lB,lC,Act.put,lD,lE,lF]
  refine tH 5 hS ?_
  try simp only [lA,lB,lC,Act.put,lD,lE,lF]
  refine wpAnyH_done (by kernel_rfl) ?_ _
  clear hS
  go_wp2
  refine wp_region_held_drew (S:=fun z:World=>z.heap[X0.heap.size]?=some (.cells #[.int .i64 fr,.int .i64 vw] 151 (0,0))) (by kernel_rfl) HL1.out (fun hS=>?_)
  refine tH 0 hS ?_
  try simp only [lA,lB,lC,Act.put,lD,lE,lF]
  refine tH 2 hS ?_
  try simp only [lA,lB,lC,Act.put,lD,lE,lF]
  refine tH 1 hS ?_ (hy:=by (intro w hw;have s0:=cell_of_heap hw 0;have s1:=cell_of_heap hw 1;simp only [List.getElem?_toArray,List.getElem?_cons_zero,List.getElem?_cons_succ] at s0 s1;clear hw;go_simp;try with_reducible rfl))
  try simp only [lA,lB,lC,Act.put,lD,lE,lF]
  refine wpAnyH_ready (rs:=[3]) (by kernel_rfl) (by simp) ?_
  refine AllReadyH.cons rfl (fun K hK=>?_) AllReadyH.nil
  go_simp
  refine (VV.out _ HB1.out.drew).mono ?_
  rintro e X2 ⟨rfl,hbf⟩
  have HB2:=hid (HB1.out.drew.trans (hbf.mono HB1.out.size))
  have HL2:=hid ((hbf.block _ (heap_lt HL1.out)).trans HL1.out)
  clear hbf
  refine hK.out _ _ HL2.out (fun hS=>?_)
  clear hK K
  refine tH 4 hS ?_
  try simp only [lA,lB,lC,Act.put,lD,lE,lF]
  refine tH 5 hS ?_
  try simp only [lA,lB,lC,Act.put,lD,lE,lF]
  refine wpAnyH_done (by kernel_rfl) ?_ _
  clear hS VV
  go_wp2_with fail
  refine (HH.out _ HB2.out).mono ?_
  rintro e w1 ⟨⟨a,n,q,rfl⟩,hr⟩
  have HR:=hid hr
  clear hr HH
  go_wp2
  go_ret
  exact ⟨⟨a,n,q,rfl⟩,HR.out⟩
theorem hearBeginT (R:Ending→World→Prop) (B:Nat) (w:World) (fr vw x2:Int) (a0:Option Addr) (n0 c0:Nat) (HS:∀ z,Below w.heap.size w z→Calls Tryz.prog 82 #[.pointer (some ⟨B,0,none⟩),.iface 158 (.agg #[.int .i64 fr,.int .i64 vw,.int .i64 x2,.slice a0 n0 c0])] z (SlRet R)) :
    Calls Tryz.prog 43 #[.pointer (some ⟨B,0,none⟩),.iface 158 (.agg #[.int .i64 fr,.int .i64 vw,.int .i64 x2,.slice a0 n0 c0])] w (SlRet R):=by
  have HH:=hid HS
  clear HS
  go_enter Tryz.func43,Tryz.ntmps43
  go_wp2_with fail
  refine (HH.out _ (Below.refl _ _)).mono ?_
  rintro e w1 ⟨⟨a,n,q,rfl⟩,hr⟩
  have HR:=hid hr
  clear hr HH
  go_wp2
  go_ret
  exact ⟨⟨a,n,q,rfl⟩,HR.out⟩
end
section
attribute [local go_sem] taLagSayFrame taLagOf stampedLag
theorem hearKeeperOwnLag (R:Ending→World→Prop) (v:PV) (B:Nat) (w:World) (h:v.At w B) (fr vw:Int) (hvw:vw=v.m.view) (HS:∀ z,Below w.heap.size w z→Calls Tryz.prog 128 #[.pointer (some ⟨B,0,none⟩),.iface 209 (.agg #[.int .i64 fr,.int .i64 vw])] z (SlRet R)) :
    Calls Tryz.prog 82 #[.pointer (some ⟨B,0,none⟩),.iface 209 (.agg #[.int .i64 fr,.int .i64 vw])] w (SlRet R):=by
  have VV:Hid (∀ z,Below w.heap.size w z→Calls Tryz.prog 88 #[.pointer (some ⟨B,0,none⟩)] z fun e w'=>e=.returned (.int .i64 vw)∧Below z.heap.size z w'):=fun z hz=>by rw [hvw];exact viewV v B z (h.below hz)
  have HH:=hid HS
  have l1:¬ (vw < vw):=by omega
  clear HS h hvw
  go_enter Tryz.func82,Tryz.ntmps82
  go_wp2_with fail
  refine (stamped_go fr vw w).mono ?_
  rintro e X0 ⟨rfl,hb0⟩
  have HB0:=hid hb0
  clear hb0
  go_wp2
  obtain ⟨Y,hY⟩:∃ Y,Y=X0.alloc (.cells #[.int .i64 fr,.int .i64 vw] 151):=⟨_,rfl⟩
  rw [← hY]
  have HBY:Hid (Below w.heap.size w Y):=by show Below _ _ _;rw [hY];exact HB0.out.alloc HB0.out.size _
  have HL:Hid (Y.heap[X0.heap.size]?=some (.cells #[.int .i64 fr,.int .i64 vw] 151 (0,0))):=by show _=_;rw [hY];exact heap_alloc_new X0 _
  clear hY
  refine wp_region_held_drew (S:=fun z:World=>z.heap[X0.heap.size]?=some (.cells #[.int .i64 fr,.int .i64 vw] 151 (0,0))) (by kernel_rfl) HL.out (fun hS=>?_)
  refine tH 0 hS ?_
  try simp only [lA,lB,lC,Act.put,lD,lE,lF]
  refine tH 2 hS ?_
  try simp only [lA,lB,lC,Act.put,lD,lE,lF]
  refine tH 1 hS ?_ (hy:=by (intro w hw;have s0:=cell_of_heap hw 0;have s1:=cell_of_heap hw 1;simp only [List.getElem?_toArray,List.getElem?_cons_zero,List.getElem?_cons_succ] at s0 s1;clear hw;go_simp;try with_reducible rfl))
  try simp only [lA,lB,lC,Act.put,lD,lE,lF]
  refine wpAnyH_ready (rs:=[3]) (by kernel_rfl) (by simp) ?_
  refine AllReadyH.cons rfl (fun K hK=>?_) AllReadyH.nil
  go_simp
  refine (VV.out _ HBY.out.drew).mono ?_
  rintro e X1 ⟨rfl,hbf⟩
  have HB1:=hid (HBY.out.drew.trans (hbf.mono HBY.out.size))
  have HL1:=hid ((hbf.block _ (heap_lt HL.out)).trans HL.out)
  clear hbf
  refine hK.out _ _ HL1.out (fun hS=>?_)
  clear hK K
  refine tH 4 hS ?_
  try simp only [lA,lB,lC,Act.put,lD,lE,lF]
  refine tH 5 hS ?_
  try simp only [lA,lB,lC,Act.put,lD,lE,lF]
  refine wpAnyH_done (by kernel_rfl) ?_ _
  clear hS
  go_wp2
  refine wp_region_held_drew (S:=fun z:World=>z.heap[X0.heap.size]?=some (.cells #[.int .i64 fr,.int .i64 vw] 151 (0,0))) (by kernel_rfl) HL1.out (fun hS=>?_)
  refine tH 0 hS ?_
  try simp only [lA,lB,lC,Act.put,lD,lE,lF]
  refine tH 2 hS ?_
  try simp only [lA,lB,lC,Act.put,lD,lE,lF]
  refine tH 1 hS ?_ (hy:=by (intro w hw;have s0:=cell_of_heap hw 0;have s1:=cell_of_heap hw 1;simp only [List.getElem?_toArray,List.getElem?_cons_zero,List.getElem?_cons_succ] at s0 s1;clear hw;go_simp;try with_reducible rfl))
  try simp only [lA,lB,lC,Act.put,lD,lE,lF]
  refine wpAnyH_ready (rs:=[3]) (by kernel_rfl) (by simp) ?_
  refine AllReadyH.cons rfl (fun K hK=>?_) AllReadyH.nil
  go_simp
  refine (VV.out _ HB1.out.drew).mono ?_
  rintro e X2 ⟨rfl,hbf⟩
  have HB2:=hid (HB1.out.drew.trans (hbf.mono HB1.out.size))
  have HL2:=hid ((hbf.block _ (heap_lt HL1.out)).trans HL1.out)
  clear hbf
  refine hK.out _ _ HL2.out (fun hS=>?_)
  clear hK K
  refine tH 4 hS ?_
  try simp only [lA,lB,lC,Act.put,lD,lE,lF]
  refine tH 5 hS ?_
  try simp only [lA,lB,lC,Act.put,lD,lE,lF]
  refine wpAnyH_done (by kernel_rfl) ?_ _
  clear hS VV
  go_wp2_with fail
  refine (HH.out _ HB2.out).mono ?_
  rintro e w1 ⟨⟨a,n,q,rfl⟩,hr⟩
  have HR:=hid hr
  clear hr HH
  go_wp2
  go_ret
  exact ⟨⟨a,n,q,rfl⟩,HR.out⟩
theorem hearLagT (R:Ending→World→Prop) (B:Nat) (w:World) (fr vw:Int) (HS:∀ z,Below w.heap.size w z→Calls Tryz.prog 82 #[.pointer (some ⟨B,0,none⟩),.iface 209 (.agg #[.int .i64 fr,.int .i64 vw])] z (SlRet R)) :
    Calls Tryz.prog 43 #[.pointer (some ⟨B,0,none⟩),.iface 209 (.agg #[.int .i64 fr,.int .i64 vw])] w (SlRet R):=by
  have HH:=hid HS
  clear HS
  go_enter Tryz.func43,Tryz.ntmps43
  go_wp2_with fail
  refine (HH.out _ (Below.refl _ _)).mono ?_
  rintro e w1 ⟨⟨a,n,q,rfl⟩,hr⟩
  have HR:=hid hr
  clear hr HH
  go_wp2
  go_ret
  exact ⟨⟨a,n,q,rfl⟩,HR.out⟩
end
theorem hearOwnIn (R:Ending→World→Prop) (v:PV) (B:Nat) (w:World) (h:v.At w B) (hk:v.kp=3∨v.kp=5) (hv:v.m.view=0) (hla:v.m.last=0) (hme:(0:Int)≠v.me) (x:Value) (HS:∀ z,Below w.heap.size w z→Calls Tryz.prog 171 #[.pointer (some ⟨B,0,none⟩),x] z (SlRet R)) :
    Calls Tryz.prog 128 #[.pointer (some ⟨B,0,none⟩),x] w (SlRet R):=by
  have IH:=hid (isHeadV v B w h (by rw [hv];decide) hk)
  have hb1:((v.m.last == v.m.view) && (v.m.view % v.kp == v.me))=false:=by
    rw [hv,hla,Int.zero_emod]
    have:((0:Int) == v.me)=false:=by rw [beq_eq_false_iff_ne];exact hme
    rw [this];rfl
  rw [hb1] at IH
  have IV:Hid (∀ z,Below w.heap.size w z→Calls Tryz.prog 132 #[.pointer (some ⟨B,0,none⟩)] z fun e w'=>e=.returned (.bool true)∧Below z.heap.size z w'):=fun z hz=>by have:=inViewV v B z (h.below hz);rw [hv,hla] at this;exact this
  have HH:=hid HS
  clear HS h hk hv hla hme hb1
  go_enter Tryz.func128,Tryz.ntmps128
  go_wp2_with fail
  refine IH.out.mono ?_
  rintro e X0 ⟨rfl,hb0⟩
  have HB0:=hid hb0
  clear hb0 IH
  go_wp2_with fail
  refine (IV.out _ HB0.out).mono ?_
  rintro e X1 ⟨rfl,hb0⟩
  have HB1:=hid (HB0.out.trans (hb0.mono HB0.out.size))
  clear hb0 IV
  go_wp2_with fail
  refine (HH.out _ HB1.out).mono ?_
  rintro e w1 ⟨⟨a,n,q,rfl⟩,hr⟩
  have HR:=hid hr
  clear hr HH
  go_wp2
  go_ret
  exact ⟨⟨a,n,q,rfl⟩,HR.out⟩
section
attribute [local go_sem] taPreparePrepareOfKeeper
theorem hearInViewPrepare (R:Ending→World→Prop) (B:Nat) (w:World) (fr vw x2 x3 x4 x5:Int) (s:List UInt8) (HS:∀ z,Below w.heap.size w z→Calls Tryz.prog 189 #[.pointer (some ⟨B,0,none⟩),.agg #[.int .i64 fr,.int .i64 vw,.int .i64 x2,.int .i64 x3,.int .i64 x4,.int .i64 x5,.string ⟨s.toArray⟩]] z (SlRet R)) :
    Calls Tryz.prog 171 #[.pointer (some ⟨B,0,none⟩),.iface 153 (.agg #[.int .i64 fr,.int .i64 vw,.int .i64 x2,.int .i64 x3,.int .i64 x4,.int .i64 x5,.string ⟨s.toArray⟩])] w (SlRet R):=by
  have HH:=hid HS
  clear HS
  go_enter Tryz.func171,Tryz.ntmps171
  go_wp2_with fail
  refine (HH.out _ ((Below.refl _ _).alloc (Nat.le_refl _) _)).mono ?_
  rintro e w1 ⟨⟨a,n,q,rfl⟩,hr⟩
  have HR:=hid hr
  clear hr HH
  go_wp2
  go_ret
  exact ⟨⟨a,n,q,rfl⟩,HR.out⟩
end
section
attribute [local go_sem] taBeatPrepareOfKeeper taBeatBeatOfKeeper
theorem hearInViewBeat (R:Ending→World→Prop) (B:Nat) (w:World) (fr vw x2:Int) (HS:∀ z,Below w.heap.size w z→Calls Tryz.prog 190 #[.pointer (some ⟨B,0,none⟩),.agg #[.int .i64 fr,.int .i64 vw,.int .i64 x2]] z (SlRet R)) :
    Calls Tryz.prog 171 #[.pointer (some ⟨B,0,none⟩),.iface 156 (.agg #[.int .i64 fr,.int .i64 vw,.int .i64 x2])] w (SlRet R):=by
  have HH:=hid HS
  clear HS
  go_enter Tryz.func171,Tryz.ntmps171
  go_wp2_with fail
  refine (HH.out _ ((Below.refl _ _).alloc (Nat.le_refl _) _)).mono ?_
  rintro e w1 ⟨⟨a,n,q,rfl⟩,hr⟩
  have HR:=hid hr
  clear hr HH
  go_wp2
  go_ret
  exact ⟨⟨a,n,q,rfl⟩,HR.out⟩
end
section
attribute [local go_sem] taBeginPrepareOfKeeper taBeginBeatOfKeeper taBeginBeginOfKeeper
theorem hearInViewBegin (R:Ending→World→Prop) (B:Nat) (w:World) (fr vw x2:Int) (a0:Option Addr) (n0 c0:Nat) (HS:∀ z,Below w.heap.size w z→Calls Tryz.prog 168 #[.pointer (some ⟨B,0,none⟩),.agg #[.int .i64 fr,.int .i64 vw,.int .i64 x2,.slice a0 n0 c0]] z (SlRet R)) :
    Calls Tryz.prog 171 #[.pointer (some ⟨B,0,none⟩),.iface 158 (.agg #[.int .i64 fr,.int .i64 vw,.int .i64 x2,.slice a0 n0 c0])] w (SlRet R):=by
  have HH:=hid HS
  clear HS
  go_enter Tryz.func171,Tryz.ntmps171
  go_wp2_with fail
  refine (HH.out _ ((Below.refl _ _).alloc (Nat.le_refl _) _)).mono ?_
  rintro e w1 ⟨⟨a,n,q,rfl⟩,hr⟩
  have HR:=hid hr
  clear hr HH
  go_wp2
  go_ret
  exact ⟨⟨a,n,q,rfl⟩,HR.out⟩
end
section
attribute [local go_sem] taHoldPrepareOfKeeper taHoldBeatOfKeeper taHoldBeginOfKeeper
theorem hearInViewHold (R:Ending→World→Prop) (B:Nat) (w:World) (fr vw pl:Int) (HS:R (.returned (.slice none 0 0)) w) :
    Calls Tryz.prog 171 #[.pointer (some ⟨B,0,none⟩),.iface 204 (.agg #[.int .i64 fr,.int .i64 vw,.int .i64 pl])] w (SlRet R):=by
  have HH:=hid HS
  clear HS
  go_enter Tryz.func171,Tryz.ntmps171
  go_wp2
  go_ret
  exact ⟨⟨_,_,_,rfl⟩,HH.out⟩
end
section
attribute [local go_sem] taLagPrepareOfKeeper taLagBeatOfKeeper taLagBeginOfKeeper
theorem hearInViewLag (R:Ending→World→Prop) (B:Nat) (w:World) (fr vw:Int) (HS:R (.returned (.slice none 0 0)) w) :
    Calls Tryz.prog 171 #[.pointer (some ⟨B,0,none⟩),.iface 209 (.agg #[.int .i64 fr,.int .i64 vw])] w (SlRet R):=by
  have HH:=hid HS
  clear HS
  go_enter Tryz.func171,Tryz.ntmps171
  go_wp2
  go_ret
  exact ⟨⟨_,_,_,rfl⟩,HH.out⟩
end
def TupRet (w:World) (B:Nat) (v v':PV) (os:List OutG) (er:Int) (e:Ending) (w':World):Prop:=∃ g c gs cs,e=.returned (.tuple #[sl g os.length c,.int .i64 er])∧OwnOuts w w' g c os gs cs∧Chg w w' B v v'∧∀ k,(g=some k∨∃ j,j < os.length∧gs j=some k)→¬ v'.own B k
theorem TupRet.nil {w w':World} {B:Nat} {v v':PV} {er:Int} (h:Chg w w' B v v'):TupRet w B v v' [] er (.returned (.tuple #[.slice none 0 0,.int .i64 er])) w':=⟨none,0,_,_,rfl,OwnOuts.none_ _ _,h,fun k e=>by
  rcases e with e | ⟨j,hj,_⟩
  · cases e
  · exact absurd hj (Nat.not_lt_zero _)⟩
theorem OutsChg.tup {w x y:World} {B:Nat} {v v':PV} {os:List OutG} {a:Option Addr} {n q:Nat} (h:OutsChg w B v v' os (.returned (.slice a n q)) x) (hb:Below x.heap.size x y) (er:Int):TupRet w B v v' os er (.returned (.tuple #[.slice a n q,.int .i64 er])) y:=by
  obtain ⟨g,c,gs,cs,h1,h2,h3,h4⟩:=h
  rw [Ending.returned.injEq] at h1
  exact ⟨g,c,gs,cs,by rw [h1],h2.below hb,h3.below hb,h4⟩
section
variable (v:PV) (B:Nat) (w:World) (h:v.At w B)
include h
theorem armV (n:Int):Calls Tryz.prog 20 #[.pointer (some ⟨B,0,none⟩),.int .i64 n] w fun e w'=>e=.returned (.tuple #[])∧Chg w w' B v (if v.lost=[] then { v with arm:=max n 0 } else v):=by
  have HA:=hid (diskArmV v B w h n)
  generalize (if v.lost=[] then { v with arm:=max n 0 } else v)=u at *
  clear h
  go_enter Tryz.func20,Tryz.ntmps20
  go_wp2_with fail
  refine HA.out.mono ?_
  rintro e X ⟨rfl,hc⟩
  have HC:=hid hc
  clear hc HA
  go_wp2
  go_end0
  exact ⟨rfl,HC.out⟩
theorem tickDeadV (hl:0 < v.lost.length):Calls Tryz.prog 27 #[.pointer (some ⟨B,0,none⟩)] w (TupRet w B v v [] 5):=by
  have FV:=hid (failedV v B w h)
  rw [decide_eq_true hl] at FV
  have HX:Hid (∀ y,Below w.heap.size w y→TupRet w B v v [] 5 (.returned (.tuple #[.slice none 0 0,.int .i64 5])) y):=fun y hy=>TupRet.nil (Chg.same h hy)
  generalize TupRet w B v v [] 5=Q at *
  clear h hl
  go_enter Tryz.func27,Tryz.ntmps27
  go_wp2_with fail
  refine FV.out.mono ?_
  rintro e X ⟨rfl,hb⟩
  have HB:=hid hb
  clear hb FV
  go_wp2
  exact HX.out _ HB.out
theorem letPassHead (hk:v.kp=3∨v.kp=5) (hv:v.m.view=0) (hla:v.m.last=0) (hme:v.me=0) (n:Nat) (hkn:v.kp=n) (hh0:∀ k,0≤v.hs k) (h20:v.m.ls.length≤20):Calls Tryz.prog 48 #[.pointer (some ⟨B,0,none⟩)] w (OutsChg w B v v ((othersL v.me n).map fun t=>⟨false,t,packS (v.remF t)⟩)):=by
  have IH:=hid (isHeadV v B w h (by rw [hv];decide) hk)
  have hb1:((v.m.last == v.m.view) && (v.m.view % v.kp == v.me))=true:=by rw [hv,hla,Int.zero_emod,hme];rfl
  rw [hb1] at IH
  have RO:Hid (∀ z,Below w.heap.size w z→Calls Tryz.prog 86 #[.pointer (some ⟨B,0,none⟩)] z fun e y=>(∃ a n q,e=.returned (.slice a n q))∧OutsChg w B v v ((othersL v.me n).map fun t=>⟨false,t,packS (v.remF t)⟩) e y):=fun z hz=>(remindOthersV v B z (h.below hz) n hkn (by omega) hh0 h20).mono (fun e y hh=>⟨(hh.chg (h.below hz)).form,OutsChg.of (Chg.same h hz) (hh.chg (h.below hz))⟩)
  generalize OutsChg w B v v ((othersL v.me n).map fun t=>⟨false,t,packS (v.remF t)⟩)=Q at *
  clear h hk hv hla hme hkn hh0 h20 hb1
  go_enter Tryz.func48,Tryz.ntmps48
  go_wp2_with fail
  refine IH.out.mono ?_
  rintro e X ⟨rfl,hb⟩
  have HB:=hid hb
  clear hb IH
  go_wp2_with fail
  refine (RO.out _ HB.out).mono ?_
  rintro e y ⟨⟨a,n,q,rfl⟩,hq⟩
  have HQ:=hid hq
  clear hq RO
  go_wp2
  exact HQ.out
theorem tickHeadV (hl:v.lost=[]) (hk:v.kp=3∨v.kp=5) (hv:v.m.view=0) (hla:v.m.last=0) (hme:v.me=0) (n:Nat) (hkn:v.kp=n) (hh0:∀ k,0≤v.hs k) (h20:v.m.ls.length≤20):Calls Tryz.prog 27 #[.pointer (some ⟨B,0,none⟩)] w (TupRet w B v v ((othersL v.me n).map fun t=>⟨false,t,packS (v.remF t)⟩) 0):=by
  have FV:=hid (failedV v B w h)
  rw [hl] at FV
  have LP:Hid (∀ z,Below w.heap.size w z→Calls Tryz.prog 48 #[.pointer (some ⟨B,0,none⟩)] z (OutsChg w B v v ((othersL v.me n).map fun t=>⟨false,t,packS (v.remF t)⟩))):=fun z hz=>(letPassHead v B z (h.below hz) hk hv hla hme n hkn hh0 h20).mono (fun e y hh=>OutsChg.of (Chg.same h hz) hh)
  have HL0:=hid hl
  have HX:Hid (∀ a n' q x y,OutsChg w B v v ((othersL v.me n).map fun t=>⟨false,t,packS (v.remF t)⟩) (.returned (.slice a n' q)) x→Below x.heap.size x y→TupRet w B v v ((othersL v.me n).map fun t=>⟨false,t,packS (v.remF t)⟩) 0 (.returned (.tuple #[.slice a n' q,.int .i64 0])) y):=fun a n' q x y h1 h2=>h1.tup h2 0
  have HAT:Hid (∀ e x,OutsChg w B v v ((othersL v.me n).map fun t=>⟨false,t,packS (v.remF t)⟩) e x→v.At x B∧∃ a n q,e=.returned (.slice a n q)):=fun e x hh=>⟨by obtain ⟨g,c,gs,cs,_,_,h3,_⟩:=hh;exact h3.at_,hh.form⟩
  generalize TupRet w B v v ((othersL v.me n).map fun t=>⟨false,t,packS (v.remF t)⟩) 0=Q at *
  generalize OutsChg w B v v ((othersL v.me n).map fun t=>⟨false,t,packS (v.remF t)⟩)=R at *
  clear h hl hk hv hla hme hkn hh0 h20
  go_enter Tryz.func27,Tryz.ntmps27
  go_wp2_with fail
  refine FV.out.mono ?_
  rintro e X ⟨rfl,hb⟩
  have HB:=hid hb
  clear hb FV
  simp only [List.length_nil,Nat.lt_irrefl,decide_false]
  go_wp2_with fail
  refine (LP.out _ HB.out).mono ?_
  intro e X1 hh
  have HH:=hid hh
  obtain ⟨hat,a,n,q,rfl⟩:=HAT.out e X1 hh
  have HUA:=hid (unlessAliveV v B X1 hat HL0.out a n q)
  clear hh hat LP HAT
  go_wp2_with fail
  refine HUA.out.mono ?_
  rintro e X2 ⟨rfl,hb2⟩
  have HF:=hid (HX.out a n q X1 X2 HH.out hb2)
  clear hb2 HUA
  go_wp2
  exact HF.out
end
end
end Go.Proofs.YtolififimldmlaaGreat
