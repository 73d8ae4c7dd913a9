import Derived.Test.YtolififimldmlaaGreatPart33
set_option linter.unusedVariables false
set_option linter.unusedSimpArgs false
set_option maxRecDepth 100000
set_option maxHeartbeats 16000000
namespace Go.Proofs.YtolififimldmlaaGreat
section
open Go.RowKit
attribute [local go_sem ↓] Go.wp_at_zero Go.wp_at_succ
attribute [local go_sem] taSaySayFrame
theorem unlessAliveV (v:PV) (B:Nat) (w:World) (h:v.At w B) (hl:v.lost=[]) (a:Option Addr) (n c:Nat):Calls Tryz.prog 42 #[.pointer (some ⟨B,0,none⟩),.slice a n c] w fun e w'=>e=.returned (.tuple #[.slice a n c,.int .i64 0])∧Below w.heap.size w w':=by
  have FV:=hid (failedV v B w h)
  rw [hl] at FV
  clear h hl
  go_enter Tryz.func42,Tryz.ntmps42
  go_wp2_with fail
  refine FV.out.mono ?_
  rintro e X0 ⟨rfl,hb0⟩
  have HB0:=hid hb0
  clear hb0 FV
  simp only [List.length_nil,Nat.lt_irrefl,decide_false]
  go_wp2
  go_ret2
  exact ⟨rfl,HB0.out⟩
theorem hearSayT (R:Ending→World→Prop) (B:Nat) (w:World) (c t:Int) (s:List UInt8) (HS:∀ z,Below w.heap.size w z→Calls Tryz.prog 81 #[.pointer (some ⟨B,0,none⟩),.agg #[.int .i64 c,.int .i64 t,.string ⟨s.toArray⟩]] z fun e w'=>∃ a n q,e=.returned (.slice a n q)∧R e w') :
    Calls Tryz.prog 43 #[.pointer (some ⟨B,0,none⟩),.iface 149 (.agg #[.int .i64 c,.int .i64 t,.string ⟨s.toArray⟩])] w fun e w'=>∃ a n q,e=.returned (.slice a n q)∧R e w':=by
  have HH:=hid HS
  clear HS
  go_enter Tryz.func43,Tryz.ntmps43
  go_wp2_with fail
  refine (HH.out _ ((Below.refl _ _).alloc (Nat.le_refl _) _)).mono ?_
  rintro e w1 ⟨a,n,q,rfl,hr⟩
  have HR:=hid hr
  clear hr HH
  go_wp2
  go_ret
  exact ⟨a,n,q,rfl,HR.out⟩
theorem acceptsSay (B:Nat) (w:World) (c t:Int) (s:List UInt8):Calls Tryz.prog 41 #[.pointer (some ⟨B,0,none⟩),.iface 149 (.agg #[.int .i64 c,.int .i64 t,.string ⟨s.toArray⟩])] w fun e w'=>e=.returned (.bool true)∧Below w.heap.size w w':=by
  go_enter Tryz.func41,Tryz.ntmps41
  go_wp2
  go_ret
  exact ⟨rfl,(Below.refl _ _).alloc (Nat.le_refl _) _⟩
end
section
open Go.RowKit
attribute [local go_sem ↓] Go.wp_at_zero Go.wp_at_succ
theorem stampedPrepare (a b c d e f g : Value) (w : World) : (method 436 153 (.agg #[a, b, c, d, e, f, g]) "Stamped").run Tryz.prog w = .ok (277, .agg #[a, b]) w := by kernel_rfl
theorem stampedHold (a b c : Value) (w : World) : (method 436 204 (.agg #[a, b, c]) "Stamped").run Tryz.prog w = .ok (277, .agg #[a, b]) w := by kernel_rfl
theorem stampedBeat (a b c : Value) (w : World) : (method 436 156 (.agg #[a, b, c]) "Stamped").run Tryz.prog w = .ok (277, .agg #[a, b]) w := by kernel_rfl
theorem stampedBegin (a b c d : Value) (w : World) : (method 436 158 (.agg #[a, b, c, d]) "Stamped").run Tryz.prog w = .ok (277, .agg #[a, b]) w := by kernel_rfl
theorem stampedLag (a b : Value) (w : World) : (method 436 209 (.agg #[a, b]) "Stamped").run Tryz.prog w = .ok (277, .agg #[a, b]) w := by kernel_rfl
theorem run_fieldS (w:World) (a b:Value):(Instr.field 151 (.agg #[a,b]) 0).run Tryz.prog w=.ok a w:=by
  unfold Instr.field
  simp [go_sem,asAgg]
theorem stamped_go (a b:Int) (w:World):Calls Tryz.prog 277 #[.agg #[.int .i64 a,.int .i64 b]] w fun e w'=>e=.returned (.agg #[.int .i64 a,.int .i64 b])∧Below w.heap.size w w':=by
  go_enter Tryz.func277,Tryz.ntmps277
  go_wp2
  refine bodyPost_ret (v:=.agg #[.int .i64 a,.int .i64 b]) ?_ rfl ⟨rfl,((Below.refl _ _).alloc (Nat.le_refl _) _).alloc (by rw [World.size_alloc];omega) _⟩
  simp [results,Tryz.results277,go_sem,World.cell?_alloc_at,World.cell?_alloc_new]
attribute [local go_sem] run_fieldS
section
attribute [local go_sem] taHoldSayFrame taHoldPrepareFrame taHoldBeatFrame taHoldBeginFrame taHoldOf stampedHold
theorem acceptsHold (v:PV) (B:Nat) (w:World) (h:v.At w B) (fr vw pl:Int):Calls Tryz.prog 41 #[.pointer (some ⟨B,0,none⟩),.iface 204 (.agg #[.int .i64 fr,.int .i64 vw,.int .i64 pl])] w fun e w'=>e=.returned (.bool (decide (0≤fr) && decide (fr < v.kp) && (fr != v.me)))∧Below w.heap.size w w':=by
  have IO:Hid (∀ z,Below w.heap.size w z→Calls Tryz.prog 80 #[.pointer (some ⟨B,0,none⟩),.int .i64 fr] z fun e w'=>e=.returned (.bool (decide (0≤fr) && decide (fr < v.kp) && (fr != v.me)))∧Below z.heap.size z w'):=fun z hz=>isOtherV v B z (h.below hz) fr
  clear h
  generalize (decide (0≤fr) && decide (fr < v.kp) && (fr != v.me))=bb at *
  go_enter Tryz.func41,Tryz.ntmps41
  go_wp2_with fail
  refine (stamped_go fr vw w).mono ?_
  rintro e X1 ⟨rfl,hb1⟩
  have HB1:=hid hb1
  clear hb1
  go_wp2_with fail
  refine (IO.out _ HB1.out).mono ?_
  rintro e X2 ⟨rfl,hb2⟩
  have HB2:=hid (HB1.out.trans (hb2.mono HB1.out.size))
  clear hb2 IO
  go_wp2
  go_ret
  exact ⟨rfl,HB2.out⟩
end
section
attribute [local go_sem] taLagSayFrame taLagPrepareFrame taLagBeatFrame taLagBeginFrame taLagOf stampedLag
theorem acceptsLag (v:PV) (B:Nat) (w:World) (h:v.At w B) (fr vw:Int):Calls Tryz.prog 41 #[.pointer (some ⟨B,0,none⟩),.iface 209 (.agg #[.int .i64 fr,.int .i64 vw])] w fun e w'=>e=.returned (.bool (decide (0≤fr) && decide (fr < v.kp) && (fr != v.me)))∧Below w.heap.size w w':=by
  have IO:Hid (∀ z,Below w.heap.size w z→Calls Tryz.prog 80 #[.pointer (some ⟨B,0,none⟩),.int .i64 fr] z fun e w'=>e=.returned (.bool (decide (0≤fr) && decide (fr < v.kp) && (fr != v.me)))∧Below z.heap.size z w'):=fun z hz=>isOtherV v B z (h.below hz) fr
  clear h
  generalize (decide (0≤fr) && decide (fr < v.kp) && (fr != v.me))=bb at *
  go_enter Tryz.func41,Tryz.ntmps41
  go_wp2_with fail
  refine (stamped_go fr vw w).mono ?_
  rintro e X1 ⟨rfl,hb1⟩
  have HB1:=hid hb1
  clear hb1
  go_wp2_with fail
  refine (IO.out _ HB1.out).mono ?_
  rintro e X2 ⟨rfl,hb2⟩
  have HB2:=hid (HB1.out.trans (hb2.mono HB1.out.size))
  clear hb2 IO
  go_wp2
  go_ret
  exact ⟨rfl,HB2.out⟩
end
end
section
open Go.RowKit
attribute [local go_sem ↓] Go.wp_at_zero Go.wp_at_succ
attribute [local go_sem] taHoldHoldOfKeeper taHoldSayFrame taHoldOf stampedHold
def SlRet (R:Ending→World→Prop) (e:Ending) (w':World):Prop:=(∃ a n q,e=.returned (.slice a n q))∧R e w'
theorem hearAsHeadHold (R:Ending→World→Prop) (B:Nat) (w:World) (fr vw pl:Int) (HS:∀ z,Below w.heap.size w z→Calls Tryz.prog 188 #[.pointer (some ⟨B,0,none⟩),.agg #[.int .i64 fr,.int .i64 vw,.int .i64 pl]] z (SlRet R)) :
    Calls Tryz.prog 170 #[.pointer (some ⟨B,0,none⟩),.iface 204 (.agg #[.int .i64 fr,.int .i64 vw,.int .i64 pl])] w (SlRet R):=by
  have HH:=hid HS
  clear HS
  go_enter Tryz.func170,Tryz.ntmps170
  go_wp2_with fail
  refine (HH.out _ ((Below.refl _ _).alloc (Nat.le_refl _) _)).mono ?_
  rintro e w1 ⟨⟨a,n,q,rfl⟩,hr⟩
  have HR:=hid hr
  clear hr HH
  go_wp2
  go_ret
  exact ⟨⟨a,n,q,rfl⟩,HR.out⟩
theorem hearOwnHead (R:Ending→World→Prop) (v:PV) (B:Nat) (w:World) (h:v.At w B) (hk:v.kp=3∨v.kp=5) (hv:0≤v.m.view) (hin:v.m.last=v.m.view) (hme:v.m.view % v.kp=v.me) (x:Value) (HS:∀ z,Below w.heap.size w z→Calls Tryz.prog 170 #[.pointer (some ⟨B,0,none⟩),x] z (SlRet R)) :
    Calls Tryz.prog 128 #[.pointer (some ⟨B,0,none⟩),x] w (SlRet R):=by
  have IH:=hid (isHeadV v B w h hv hk)
  have hb1:((v.m.last == v.m.view) && (v.m.view % v.kp == v.me))=true:=by rw [hin,hme];simp
  rw [hb1] at IH
  have HH:=hid HS
  clear HS h hk hv hin hme hb1
  go_enter Tryz.func128,Tryz.ntmps128
  go_wp2_with fail
  refine IH.out.mono ?_
  rintro e X0 ⟨rfl,hb0⟩
  have HB0:=hid hb0
  clear hb0 IH
  go_wp2_with fail
  refine (HH.out _ HB0.out).mono ?_
  rintro e w1 ⟨⟨a,n,q,rfl⟩,hr⟩
  have HR:=hid hr
  clear hr HH
  go_wp2
  go_ret
  exact ⟨⟨a,n,q,rfl⟩,HR.out⟩
theorem hearKeeperOwnHold (R:Ending→World→Prop) (v:PV) (B:Nat) (w:World) (h:v.At w B) (fr vw pl:Int) (hvw:vw=v.m.view) (HS:∀ z,Below w.heap.size w z→Calls Tryz.prog 128 #[.pointer (some ⟨B,0,none⟩),.iface 204 (.agg #[.int .i64 fr,.int .i64 vw,.int .i64 pl])] z (SlRet R)) :
    Calls Tryz.prog 82 #[.pointer (some ⟨B,0,none⟩),.iface 204 (.agg #[.int .i64 fr,.int .i64 vw,.int .i64 pl])] w (SlRet R):=by
  have VV:Hid (∀ z,Below w.heap.size w z→Calls Tryz.prog 88 #[.pointer (some ⟨B,0,none⟩)] z fun e w'=>e=.returned (.int .i64 vw)∧Below z.heap.size z w'):=fun z hz=>by rw [hvw];exact viewV v B z (h.below hz)
  have HH:=hid HS
  have l1:¬ (vw < vw):=by omega
  clear HS h hvw
  go_enter Tryz.func82,Tryz.ntmps82
  go_wp2_with fail
  refine (stamped_go fr vw w).mono ?_
  rintro e X0 ⟨rfl,hb0⟩
  have HB0:=hid hb0
  clear hb0
  go_wp2
  obtain ⟨Y,hY⟩:∃ Y,Y=X0.alloc (.cells #[.int .i64 fr,.int .i64 vw] 151):=⟨_,rfl⟩
  rw [← hY]
  have HBY:Hid (Below w.heap.size w Y):=by show Below _ _ _;rw [hY];exact HB0.out.alloc HB0.out.size _
  have HL:Hid (Y.heap[X0.heap.size]?=some (.cells #[.int .i64 fr,.int .i64 vw] 151 (0,0))):=by show _=_;rw [hY];exact heap_alloc_new X0 _
  clear hY
  refine wp_region_held_drew (S:=fun z:World=>z.heap[X0.heap.size]?=some (.cells #[.int .i64 fr,.int .i64 vw] 151 (0,0))) (by kernel_rfl) HL.out (fun hS=>?_)
  refine tH 0 hS ?_
  try simp only [lA,lB,lC,Act.put,lD,lE,lF]
  refine tH 2 hS ?_
  try simp only [lA,lB,lC,Act.put,lD,lE,lF]
  refine tH 1 hS ?_ (hy:=by (intro w hw;have s0:=cell_of_heap hw 0;have s1:=cell_of_heap hw 1;simp only [List.getElem?_toArray,List.getElem?_cons_zero,List.getElem?_cons_succ] at s0 s1;clear hw;go_simp;try with_reducible rfl))
  try simp only [lA,lB,lC,Act.put,lD,lE,lF]
  refine wpAnyH_ready (rs:=[3]) (by kernel_rfl) (by simp) ?_
  refine AllReadyH.cons rfl (fun K hK=>?_) AllReadyH.nil
  go_simp
  refine (VV.out _ HBY.out.drew).mono ?_
  rintro e X1 ⟨rfl,hbf⟩
  have HB1:=hid (HBY.out.drew.trans (hbf.mono HBY.out.size))
  have HL1:=hid ((hbf.block _ (heap_lt HL.out)).trans HL.out)
  clear hbf
  refine hK.out _ _ HL1.out (fun hS=>?_)
  clear hK K
  refine tH 4 hS ?_
  try simp only [lA,lB,lC,Act.put,lD,lE,lF]
  refine tH 5 hS ?_
  try simp only [lA,lB,lC,Act.put,lD,lE,lF]
  refine wpAnyH_done (by kernel_rfl) ?_ _
  clear hS
  go_wp2
  refine wp_region_held_drew (S:=fun z:World=>z.heap[X0.heap.size]?=some (.cells #[.int .i64 fr,.int .i64 vw] 151 (0,0))) (by kernel_rfl) HL1.out (fun hS=>?_)
  refine tH 0 hS ?_
  try simp only [lA,lB,lC,Act.put,lD,lE,lF]
  refine tH 2 hS ?_
  try simp only [lA,lB,lC,Act.put,lD,lE,lF]
  refine tH 1 hS ?_ (hy:=by (intro w hw;have s0:=cell_of_heap hw 0;have s1:=cell_of_heap hw 1;simp only [List.getElem?_toArray,List.getElem?_cons_zero,List.getElem?_cons_succ] at s0 s1;clear hw;go_simp;try with_reducible rfl))
  try simp only [lA,lB,lC,Act.put,lD,lE,lF]
  refine wpAnyH_ready (rs:=[3]) (by kernel_rfl) (by simp) ?_
  refine AllReadyH.cons rfl (fun K hK=>?_) AllReadyH.nil
  go_simp
  refine (VV.out _ HB1.out.drew).mono ?_
  rintro e X2 ⟨rfl,hbf⟩
  have HB2:=hid (HB1.out.drew.trans (hbf.mono HB1.out.size))
  have HL2:=hid ((hbf.block _ (heap_lt HL1.out)).trans HL1.out)
  clear hbf
  refine hK.out _ _ HL2.out (fun hS=>?_)
  clear hK K
  refine tH 4 hS ?_
  try simp only [lA,lB,lC,Act.put,lD,lE,lF]
  refine tH 5 hS ?_
  try simp only [lA,lB,lC,Act.put,lD,lE,lF]
  refine wpAnyH_done (by kernel_rfl) ?_ _
  clear hS VV
  go_wp2_with fail
  refine (HH.out _ HB2.out).mono ?_
  rintro e w1 ⟨⟨a,n,q,rfl⟩,hr⟩
  have HR:=hid hr
  clear hr HH
  go_wp2
  go_ret
  exact ⟨⟨a,n,q,rfl⟩,HR.out⟩
theorem hearHoldT (R:Ending→World→Prop) (B:Nat) (w:World) (fr vw pl:Int) (HS:∀ z,Below w.heap.size w z→Calls Tryz.prog 82 #[.pointer (some ⟨B,0,none⟩),.iface 204 (.agg #[.int .i64 fr,.int .i64 vw,.int .i64 pl])] z (SlRet R)) :
    Calls Tryz.prog 43 #[.pointer (some ⟨B,0,none⟩),.iface 204 (.agg #[.int .i64 fr,.int .i64 vw,.int .i64 pl])] w (SlRet R):=by
  have HH:=hid HS
  clear HS
  go_enter Tryz.func43,Tryz.ntmps43
  go_wp2_with fail
  refine (HH.out _ (Below.refl _ _)).mono ?_
  rintro e w1 ⟨⟨a,n,q,rfl⟩,hr⟩
  have HR:=hid hr
  clear hr HH
  go_wp2
  go_ret
  exact ⟨⟨a,n,q,rfl⟩,HR.out⟩
end
section
open Go.RowKit
attribute [local go_sem ↓] Go.wp_at_zero Go.wp_at_succ
end
end Go.Proofs.YtolififimldmlaaGreat
