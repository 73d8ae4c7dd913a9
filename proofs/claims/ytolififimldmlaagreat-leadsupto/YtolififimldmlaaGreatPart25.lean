import Derived.Test.YtolififimldmlaaGreatPart24
import Derived.Test.YtolififimldmlaaGreatPart16
set_option linter.unusedVariables false
set_option linter.unusedSimpArgs false
set_option maxRecDepth 100000
set_option maxHeartbeats 16000000
namespace Go.Proofs.YtolififimldmlaaGreat
section
open Go.RowKit
attribute [local go_sem ↓] Go.wp_at_zero Go.wp_at_succ
structure PV where
  kp:Int
  me:Int
  pa:Int
  d:List UInt8
  m:Mm
  arm:Int
  lost:List UInt8
  ag:Nat
  hs:Nat→Int
  gd:Option Nat
  cd:Nat
  gl:Option Nat
  cl:Nat
  gf:Option Nat
  cf:Nat
def PV.At (v:PV) (w:World) (K:Nat):Prop:=PK w K v.kp v.me v.pa v.d v.m v.arm v.lost v.ag v.hs v.gd v.cd v.gl v.cl v.gf v.cf
def PV.own (v:PV) (K k:Nat):Prop:=k=K∨v.gd=some k∨v.gl=some k∨v.gf=some k
theorem PV.At.below {v:PV} {w w':World} {K:Nat} (h:v.At w K) (hb:Below w.heap.size w w'):v.At w' K:=PK.below h hb
theorem PV.At.lt {v:PV} {w:World} {K:Nat} (h:v.At w K):K < w.heap.size:=heap_lt h.blk
theorem run_fieldC (w:World) (a b c:Value):(Instr.field 94 (.agg #[a,b,c]) 0).run Tryz.prog w=.ok a w∧(Instr.field 94 (.agg #[a,b,c]) 1).run Tryz.prog w=.ok b w:=by
  unfold Instr.field
  constructor <;> simp [go_sem,asAgg]
theorem run_fieldC0 (w:World) (a b c:Value):(Instr.field 94 (.agg #[a,b,c]) 0).run Tryz.prog w=.ok a w:=(run_fieldC w a b c).1
section
variable (v:PV) (K:Nat) (w:World) (h:v.At w K)
include h
theorem saidV:Calls Tryz.prog 47 #[.pointer (some ⟨K,3,none⟩)] w fun e w'=>e=.returned (.agg #[.int .i64 v.m.view,.int .i64 v.m.last,sl v.gl v.m.ls.length v.cl])∧Below w.heap.size w w' :=
  said_go K _ _ _ _ _ _ _ _ _ _ _ _ _ _ _ w h
theorem linesV:Calls Tryz.prog 83 #[.pointer (some ⟨K,0,none⟩)] w fun e w'=>e=.returned (sl v.gl v.m.ls.length v.cl)∧Below w.heap.size w w' :=
  lines_go K _ _ _ _ _ _ _ _ _ _ _ _ _ _ _ w h
attribute [local go_sem] run_fieldC0 in
theorem viewV:Calls Tryz.prog 88 #[.pointer (some ⟨K,0,none⟩)] w fun e w'=>e=.returned (.int .i64 v.m.view)∧Below w.heap.size w w':=by
  have HS:=hid (saidV v K w h)
  clear h
  go_enter Tryz.func88,Tryz.ntmps88
  go_wp2_with fail
  refine HS.out.mono ?_
  rintro e w2 ⟨rfl,hb⟩
  go_wp2
  go_ret
  exact ⟨rfl,hb⟩
theorem fewV (hk:v.kp=3∨v.kp=5):Calls Tryz.prog 199 #[.pointer (some ⟨K,0,none⟩)] w fun e w'=>e=.returned (.int .i64 (v.kp / 2))∧Below w.heap.size w w':=by
  have c0:w.cell? ⟨K,0,none⟩=some (.int .i64 v.kp):=cell_of_heap h.blk 0
  clear h
  generalize v.kp=kp at *
  rcases hk with rfl | rfl
  all_goals
    go_enter Tryz.func199,Tryz.ntmps199
    go_wp2
    go_ret
    exact ⟨rfl,Below.refl _ _⟩
theorem headOfV (x:Int) (hx:0≤x) (hk:v.kp=3∨v.kp=5):Calls Tryz.prog 120 #[.pointer (some ⟨K,0,none⟩),.int .i64 x] w fun e w'=>e=.returned (.int .i64 (x % v.kp))∧Below w.heap.size w w':=by
  have c0:w.cell? ⟨K,0,none⟩=some (.int .i64 v.kp):=cell_of_heap h.blk 0
  clear h
  generalize v.kp=kp at *
  rcases hk with rfl | rfl
  all_goals
    go_enter Tryz.func120,Tryz.ntmps120
    go_wp2
    go_ret
    exact ⟨rfl,Below.refl _ _⟩
theorem inViewV:Calls Tryz.prog 132 #[.pointer (some ⟨K,0,none⟩)] w fun e w'=>e=.returned (.bool (v.m.last == v.m.view))∧Below w.heap.size w w':=by
  have HS:=hid (saidV v K w h)
  clear h
  go_enter Tryz.func132,Tryz.ntmps132
  go_wp2_with fail
  refine HS.out.mono ?_
  rintro e w2 ⟨rfl,hb⟩
  unfold sl
  go_wp2
  go_ret
  exact ⟨rfl,hb.alloc hb.size _⟩
theorem failedV:Calls Tryz.prog 39 #[.pointer (some ⟨K,3,none⟩)] w fun e w'=>e=.returned (.bool (decide (0 < v.lost.length)))∧Below w.heap.size w w':=by
  have c8:w.cell? ⟨K,8,none⟩=some (sl v.gf v.lost.length v.cf):=cell_of_heap h.blk 8
  clear h
  unfold sl at c8
  go_enter Tryz.func39,Tryz.ntmps39
  go_wp2
  go_ret
  exact ⟨ret_bool (by simp),Below.refl _ _⟩
theorem isOtherV (x:Int):Calls Tryz.prog 80 #[.pointer (some ⟨K,0,none⟩),.int .i64 x] w fun e w'=>e=.returned (.bool (decide (0≤x) && decide (x < v.kp) && (x != v.me)))∧Below w.heap.size w w':=by
  have c0:w.cell? ⟨K,0,none⟩=some (.int .i64 v.kp):=cell_of_heap h.blk 0
  have c1:w.cell? ⟨K,1,none⟩=some (.int .i64 v.me):=cell_of_heap h.blk 1
  clear h
  rcases Int.lt_or_le x 0 with h1 | h1
  · go_enter Tryz.func80,Tryz.ntmps80
    go_wp2
    go_ret
    exact ⟨ret_bool (by simp;omega),Below.refl _ _⟩
  · rcases Int.lt_or_le x v.kp with h2 | h2
    · go_enter Tryz.func80,Tryz.ntmps80
      go_wp2
      go_ret
      exact ⟨ret_bool (by simp [h1,h2]),Below.refl _ _⟩
    · go_enter Tryz.func80,Tryz.ntmps80
      go_wp2
      go_ret
      exact ⟨ret_bool (by simp;omega),Below.refl _ _⟩
end
section
variable (v:PV) (B:Nat) (w:World) (h:v.At w B)
include h
theorem isHeadByNumberV (hv:0≤v.m.view) (hk:v.kp=3∨v.kp=5):Calls Tryz.prog 133 #[.pointer (some ⟨B,0,none⟩)] w fun e w'=>e=.returned (.bool (v.m.view % v.kp == v.me))∧Below w.heap.size w w':=by
  have H1:Hid (w.cell? ⟨B,1,none⟩=some (.int .i64 v.me)):=cell_of_heap h.blk 1
  have VV:Hid (∀ z,Below w.heap.size w z→Calls Tryz.prog 88 #[.pointer (some ⟨B,0,none⟩)] z fun e w'=>e=.returned (.int .i64 v.m.view)∧Below z.heap.size z w'):=fun z hz=>viewV v B z (h.below hz)
  have HH:Hid (∀ z,Below w.heap.size w z→Calls Tryz.prog 120 #[.pointer (some ⟨B,0,none⟩),.int .i64 v.m.view] z fun e w'=>e=.returned (.int .i64 (v.m.view % v.kp))∧Below z.heap.size z w'):=fun z hz=>headOfV v B z (h.below hz) _ hv hk
  clear h hv hk
  generalize v.m.view % v.kp=hd at *
  go_enter Tryz.func133,Tryz.ntmps133
  go_wp2
  have hS0:(fun z:World=>Below w.heap.size w z∧z.cell? ⟨B,1,none⟩=some (.int .i64 v.me)) w.drew:=⟨(Below.refl _ _).drew,H1.out⟩
  refine wp_region_held_drew (S:=fun z:World=>Below w.heap.size w z∧z.cell? ⟨B,1,none⟩=some (.int .i64 v.me)) (by kernel_rfl) hS0 (fun hS=>?_)
  clear hS0
  refine tH 0 hS ?_
  try simp only [lA,lB,lC,Act.put,lD,lE,lF]
  refine tH 1 hS ?_
  try simp only [lA,lB,lC,Act.put,lD,lE,lF]
  refine tH 4 hS ?_
  try simp only [lA,lB,lC,Act.put,lD,lE,lF]
  refine tH 5 hS ?_
  try simp only [lA,lB,lC,Act.put,lD,lE,lF]
  refine tH 6 hS ?_
  try simp only [lA,lB,lC,Act.put,lD,lE,lF]
  refine tH 7 hS ?_
  try simp only [lA,lB,lC,Act.put,lD,lE,lF]
  refine tH 8 hS ?_ (hy:=by (intro w hw;obtain ⟨_,s1⟩:=hw;go_simp;try with_reducible rfl))
  try simp only [lA,lB,lC,Act.put,lD,lE,lF]
  refine wpAnyH_ready (rs:=[2]) (by kernel_rfl) (by simp) ?_
  refine AllReadyH.cons rfl (fun K hK=>?_) AllReadyH.nil
  go_simp
  refine (VV.out _ hS.1).mono ?_
  rintro e X1 ⟨rfl,hbf⟩
  have hb1:=hS.1.trans (hbf.mono hS.1.size)
  clear hbf
  refine hK.out _ _ ⟨hb1,(Below.cell hb1 (World.block_lt_of_cell? _ _ H1.out)).trans H1.out⟩ (fun hS=>?_)
  clear hK K hb1
  refine wpAnyH_ready (rs:=[3]) (by kernel_rfl) (by simp) ?_
  refine AllReadyH.cons rfl (fun K hK=>?_) AllReadyH.nil
  go_simp
  refine (HH.out _ hS.1).mono ?_
  rintro e X2 ⟨rfl,hbf⟩
  have hb1:=hS.1.trans (hbf.mono hS.1.size)
  clear hbf
  refine hK.out _ _ ⟨hb1,(Below.cell hb1 (World.block_lt_of_cell? _ _ H1.out)).trans H1.out⟩ (fun hS=>?_)
  clear hK K
  refine tH 9 hS ?_
  try simp only [lA,lB,lC,Act.put,lD,lE,lF]
  refine tH 10 hS ?_
  try simp only [lA,lB,lC,Act.put,lD,lE,lF]
  refine wpAnyH_done (by kernel_rfl) ?_ _
  clear hS
  have HB:=hid hb1
  clear hb1
  go_wp2
  go_ret
  exact ⟨rfl,HB.out⟩
theorem isHeadV (hv:0≤v.m.view) (hk:v.kp=3∨v.kp=5):Calls Tryz.prog 85 #[.pointer (some ⟨B,0,none⟩)] w fun e w'=>e=.returned (.bool ((v.m.last == v.m.view) && (v.m.view % v.kp == v.me)))∧Below w.heap.size w w':=by
  have VV:=hid (inViewV v B w h)
  have HH:Hid (∀ z,Below w.heap.size w z→Calls Tryz.prog 133 #[.pointer (some ⟨B,0,none⟩)] z fun e w'=>e=.returned (.bool (v.m.view % v.kp == v.me))∧Below z.heap.size z w'):=fun z hz=>isHeadByNumberV v B z (h.below hz) hv hk
  clear h hv hk
  generalize (v.m.view % v.kp == v.me)=b2 at *
  generalize (v.m.last == v.m.view)=b1 at *
  cases b1
  · go_enter Tryz.func85,Tryz.ntmps85
    go_wp2_with fail
    refine VV.out.mono ?_
    rintro e w2 ⟨rfl,hb⟩
    go_wp2
    go_ret
    exact ⟨rfl,hb⟩
  · go_enter Tryz.func85,Tryz.ntmps85
    go_wp2_with fail
    refine VV.out.mono ?_
    rintro e w2 ⟨rfl,hb⟩
    have HB:=hid hb
    clear hb
    go_wp2_with fail
    refine (HH.out _ HB.out).mono ?_
    rintro e w3 ⟨rfl,hb⟩
    go_wp2
    go_ret
    exact ⟨rfl,HB.out.trans (hb.mono HB.out.size)⟩
theorem stampV:Calls Tryz.prog 164 #[.pointer (some ⟨B,0,none⟩)] w fun e w'=>e=.returned (.agg #[.int .i64 v.me,.int .i64 v.m.view])∧Below w.heap.size w w':=by
  have H1:Hid (w.cell? ⟨B,1,none⟩=some (.int .i64 v.me)):=cell_of_heap h.blk 1
  have hK:=h.lt
  have VV:Hid (∀ z,Below w.heap.size w z→Calls Tryz.prog 88 #[.pointer (some ⟨B,0,none⟩)] z fun e w'=>e=.returned (.int .i64 v.m.view)∧Below z.heap.size z w'):=fun z hz=>viewV v B z (h.below hz)
  clear h
  go_enter Tryz.func164,Tryz.ntmps164
  go_wp2
  generalize hY:w.alloc (.cells #[.int .i64 0,.int .i64 0] 151)=Y
  have HBY:Hid (Below w.heap.size w Y):=by show Below _ _ _;rw [← hY];exact (Below.refl _ _).alloc (Nat.le_refl _) _
  have HR:Hid (Y.heap[w.heap.size]?=some (.cells #[.int .i64 0,.int .i64 0] 151 (0,0))):=by show _=_;rw [← hY];exact heap_alloc_new w _
  clear hY
  have H1Y:Hid (Y.cell? ⟨B,1,none⟩=some (.int .i64 v.me)):=(HBY.out.cell hK).trans H1.out
  have hS0:(fun z:World=>Below w.heap.size w z∧z.cell? ⟨B,1,none⟩=some (.int .i64 v.me)) Y.drew:=⟨HBY.out.drew,H1Y.out⟩
  refine wp_region_held_drew (S:=fun z:World=>Below w.heap.size w z∧z.cell? ⟨B,1,none⟩=some (.int .i64 v.me)) (by kernel_rfl) hS0 (fun hS=>?_)
  clear hS0
  refine tH 0 hS ?_
  try simp only [lA,lB,lC,Act.put,lD,lE,lF]
  refine tH 1 hS ?_
  try simp only [lA,lB,lC,Act.put,lD,lE,lF]
  refine tH 2 hS ?_
  try simp only [lA,lB,lC,Act.put,lD,lE,lF]
  refine tH 3 hS ?_
  try simp only [lA,lB,lC,Act.put,lD,lE,lF]
  refine tH 5 hS ?_
  try simp only [lA,lB,lC,Act.put,lD,lE,lF]
  refine tH 4 hS ?_ (hy:=by (intro w hw;obtain ⟨_,s1⟩:=hw;go_simp;try with_reducible rfl))
  try simp only [lA,lB,lC,Act.put,lD,lE,lF]
  refine wpAnyH_ready (rs:=[6]) (by kernel_rfl) (by simp) ?_
  refine AllReadyH.cons rfl (fun K hK=>?_) AllReadyH.nil
  go_simp
  refine (VV.out _ hS.1).mono ?_
  rintro e X1 ⟨rfl,hbf⟩
  have hb1:=hS.1.trans (hbf.mono hS.1.size)
  have HR1:Hid (X1.heap[w.heap.size]?=some (.cells #[.int .i64 0,.int .i64 0] 151 (0,0))):=(hbf.block _ (heap_lt HR.out)).trans HR.out
  have H1X:Hid (X1.cell? ⟨B,1,none⟩=some (.int .i64 v.me)):=(Below.cell hb1 (World.block_lt_of_cell? _ _ H1.out)).trans H1.out
  clear hbf
  refine hK.out _ _ ⟨hb1,H1X.out⟩ (fun hS=>?_)
  clear hK K
  have HB1:=hid hb1
  clear hb1
  have q0:X1.cell? ⟨w.heap.size,0,none⟩=some (.int .i64 0):=cell_of_heap HR1.out 0
  have q1:X1.cell? ⟨w.heap.size,1,none⟩=some (.int .i64 0):=cell_of_heap HR1.out 1
  have fq:∀ j,X1.frozen? ⟨w.heap.size,j,none⟩=false:=fun j=>frozen_of_heap HR1.out j
  refine tH 7 hS ?_
  try simp only [lA,lB,lC,Act.put,lD,lE,lF]
  refine wpAnyH_ready (rs:=[8]) (by kernel_rfl) (by simp) ?_
  refine AllReadyH.cons rfl (fun K hK=>?_) AllReadyH.nil
  go_simp
  have h2:=heap_setCell (heap_setCell HR1.out 0 (.int .i64 v.me)) 1 (.int .i64 v.m.view)
  simp only [List.setIfInBounds_toArray,List.set_cons_zero,List.set_cons_succ] at h2
  have z0:=cell_of_heap h2 0
  have z1:=cell_of_heap h2 1
  simp only [List.getElem?_toArray,List.getElem?_cons_zero,List.getElem?_cons_succ] at z0 z1
  have HB2:=hid ((HB1.out.setCell (p:=⟨w.heap.size,0,none⟩) (Nat.le_refl _) (.int .i64 v.me)).setCell (p:=⟨w.heap.size,1,none⟩) (Nat.le_refl _) (.int .i64 v.m.view))
  refine hK.out _ _ ⟨HB2.out,(HB2.out.cell (World.block_lt_of_cell? _ _ H1.out)).trans H1.out⟩ (fun hS=>?_)
  clear hK K
  refine wpAnyH_done (by kernel_rfl) ?_ _
  clear hS
  go_wp2
  refine bodyPost_ret (v:=.agg #[.int .i64 v.me,.int .i64 v.m.view]) ?_ rfl ⟨rfl,HB2.out⟩
  simp [results,Tryz.results164,go_sem,z0,z1]
end
def BytesRet (w:World) (f:Fr) (e:Ending) (w':World):Prop:=∃ g c,e=.returned (sl g (packS f).length c)∧OwnBytes w w' g c (packS f)∧Below w.heap.size w w'
theorem methodTold (v : Value) (w : World) : (method 436 211 v "parley/frames.plain").run Tryz.prog w = .ok (285, v) w := by kernel_rfl
theorem plainTold (view place c t:Int) (s:List UInt8) (w:World):Calls Tryz.prog 285 #[.agg #[.int .i64 view,.int .i64 place,.int .i64 c,.int .i64 t,.string ⟨s.toArray⟩]] w fun e w'=>e=.returned ((⟨9,0,view,place,0,0,⟨c,t,s⟩,[]⟩:Fr).val none 0)∧Below w.heap.size w w':=by
  unfold Fr.val sla
  try unfold Ln.zero
  dsimp only
  go_enter Tryz.func285,Tryz.ntmps285
  go_wp2
  refine bodyPost_ret (v:=(⟨9,0,view,place,0,0,⟨c,t,s⟩,[]⟩:Fr).val none 0) ?_ rfl ⟨rfl,((Below.refl _ _).alloc (Nat.le_refl _) _).alloc (by rw [World.size_alloc];omega) _⟩
  unfold Fr.val sla
  try unfold Ln.zero
  dsimp only
  simp [results,Tryz.results285,go_sem,World.cell?_alloc_at,World.cell?_alloc_new]
theorem bytesTold (view place c t:Int) (s:List UInt8) (w:World):Calls Tryz.prog 176 #[.iface 211 (.agg #[.int .i64 view,.int .i64 place,.int .i64 c,.int .i64 t,.string ⟨s.toArray⟩])] w (BytesRet w ⟨9,0,view,place,0,0,⟨c,t,s⟩,[]⟩):=by
  have hm:=methodTold
  have HP:Hid (∀ z,Below w.heap.size w z→Calls Tryz.prog 32 #[(⟨9,0,view,place,0,0,⟨c,t,s⟩,[]⟩:Fr).val none 0] z (PackRet z ⟨9,0,view,place,0,0,⟨c,t,s⟩,[]⟩)):=fun z hz=>framesPack_go _ _ _ z (fun j hj=>absurd hj (by simp)) (by simp) (by simp)
  have HX:Hid (∀ gq cq w',OwnBytes w w' gq cq (packS ⟨9,0,view,place,0,0,⟨c,t,s⟩,[]⟩)→Below w.heap.size w w'→BytesRet w ⟨9,0,view,place,0,0,⟨c,t,s⟩,[]⟩ (.returned (.slice (gq.map fun k=>⟨k,0,none⟩) (packS ⟨9,0,view,place,0,0,⟨c,t,s⟩,[]⟩).length cq)) w'):=fun gq cq w' h1 h2=>⟨gq,cq,rfl,h1,h2⟩
  go_enter Tryz.func176,Tryz.ntmps176
  go_wp2_with fail
  refine (plainTold view place c t s w).mono ?_
  rintro e w1 ⟨rfl,hb1⟩
  have HB1:=hid hb1
  clear hb1
  go_wp2_with fail
  refine (HP.out _ HB1.out).mono ?_
  rintro e w2 ⟨gq,cq,rfl,ho,hb2⟩
  have HO:=hid (ho.base (u:=w) HB1.out.size)
  have HB2:=hid (HB1.out.trans (hb2.mono HB1.out.size))
  clear ho hb2 hm HP
  generalize packS _=pb at *
  unfold sl
  go_wp2
  go_ret
  exact HX.out gq cq _ HO.out HB2.out
theorem methodPrepare (v : Value) (w : World) : (method 436 153 v "parley/frames.plain").run Tryz.prog w = .ok (278, v) w := by kernel_rfl
theorem plainPrepare (frm view place agreed c t:Int) (s:List UInt8) (w:World):Calls Tryz.prog 278 #[.agg #[.int .i64 frm,.int .i64 view,.int .i64 place,.int .i64 agreed,.int .i64 c,.int .i64 t,.string ⟨s.toArray⟩]] w fun e w'=>e=.returned ((⟨2,frm,view,place,agreed,0,⟨c,t,s⟩,[]⟩:Fr).val none 0)∧Below w.heap.size w w':=by
  unfold Fr.val sla
  try unfold Ln.zero
  dsimp only
  go_enter Tryz.func278,Tryz.ntmps278
  go_wp2
  refine bodyPost_ret (v:=(⟨2,frm,view,place,agreed,0,⟨c,t,s⟩,[]⟩:Fr).val none 0) ?_ rfl ⟨rfl,((Below.refl _ _).alloc (Nat.le_refl _) _).alloc (by rw [World.size_alloc];omega) _⟩
  unfold Fr.val sla
  try unfold Ln.zero
  dsimp only
  simp [results,Tryz.results278,go_sem,World.cell?_alloc_at,World.cell?_alloc_new]
theorem bytesPrepare (frm view place agreed c t:Int) (s:List UInt8) (w:World):Calls Tryz.prog 176 #[.iface 153 (.agg #[.int .i64 frm,.int .i64 view,.int .i64 place,.int .i64 agreed,.int .i64 c,.int .i64 t,.string ⟨s.toArray⟩])] w (BytesRet w ⟨2,frm,view,place,agreed,0,⟨c,t,s⟩,[]⟩):=by
  have hm:=methodPrepare
  have HP:Hid (∀ z,Below w.heap.size w z→Calls Tryz.prog 32 #[(⟨2,frm,view,place,agreed,0,⟨c,t,s⟩,[]⟩:Fr).val none 0] z (PackRet z ⟨2,frm,view,place,agreed,0,⟨c,t,s⟩,[]⟩)):=fun z hz=>framesPack_go _ _ _ z (fun j hj=>absurd hj (by simp)) (by simp) (by simp)
  have HX:Hid (∀ gq cq w',OwnBytes w w' gq cq (packS ⟨2,frm,view,place,agreed,0,⟨c,t,s⟩,[]⟩)→Below w.heap.size w w'→BytesRet w ⟨2,frm,view,place,agreed,0,⟨c,t,s⟩,[]⟩ (.returned (.slice (gq.map fun k=>⟨k,0,none⟩) (packS ⟨2,frm,view,place,agreed,0,⟨c,t,s⟩,[]⟩).length cq)) w'):=fun gq cq w' h1 h2=>⟨gq,cq,rfl,h1,h2⟩
  go_enter Tryz.func176,Tryz.ntmps176
  go_wp2_with fail
  refine (plainPrepare frm view place agreed c t s w).mono ?_
  rintro e w1 ⟨rfl,hb1⟩
  have HB1:=hid hb1
  clear hb1
  go_wp2_with fail
  refine (HP.out _ HB1.out).mono ?_
  rintro e w2 ⟨gq,cq,rfl,ho,hb2⟩
  have HO:=hid (ho.base (u:=w) HB1.out.size)
  have HB2:=hid (HB1.out.trans (hb2.mono HB1.out.size))
  clear ho hb2 hm HP
  generalize packS _=pb at *
  unfold sl
  go_wp2
  go_ret
  exact HX.out gq cq _ HO.out HB2.out
theorem methodHold (v : Value) (w : World) : (method 436 204 v "parley/frames.plain").run Tryz.prog w = .ok (281, v) w := by kernel_rfl
theorem plainHold (frm view place:Int) (w:World):Calls Tryz.prog 281 #[.agg #[.int .i64 frm,.int .i64 view,.int .i64 place]] w fun e w'=>e=.returned ((⟨3,frm,view,place,0,0,Ln.zero,[]⟩:Fr).val none 0)∧Below w.heap.size w w':=by
  unfold Fr.val sla
  try unfold Ln.zero
  dsimp only
  go_enter Tryz.func281,Tryz.ntmps281
  go_wp2
  refine bodyPost_ret (v:=(⟨3,frm,view,place,0,0,Ln.zero,[]⟩:Fr).val none 0) ?_ rfl ⟨rfl,((Below.refl _ _).alloc (Nat.le_refl _) _).alloc (by rw [World.size_alloc];omega) _⟩
  unfold Fr.val sla
  try unfold Ln.zero
  dsimp only
  simp [results,Tryz.results281,go_sem,World.cell?_alloc_at,World.cell?_alloc_new]
theorem bytesHold (frm view place:Int) (w:World):Calls Tryz.prog 176 #[.iface 204 (.agg #[.int .i64 frm,.int .i64 view,.int .i64 place])] w (BytesRet w ⟨3,frm,view,place,0,0,Ln.zero,[]⟩):=by
  have hm:=methodHold
  have HP:Hid (∀ z,Below w.heap.size w z→Calls Tryz.prog 32 #[(⟨3,frm,view,place,0,0,Ln.zero,[]⟩:Fr).val none 0] z (PackRet z ⟨3,frm,view,place,0,0,Ln.zero,[]⟩)):=fun z hz=>framesPack_go _ _ _ z (fun j hj=>absurd hj (by simp)) (by simp) (by simp)
  have HX:Hid (∀ gq cq w',OwnBytes w w' gq cq (packS ⟨3,frm,view,place,0,0,Ln.zero,[]⟩)→Below w.heap.size w w'→BytesRet w ⟨3,frm,view,place,0,0,Ln.zero,[]⟩ (.returned (.slice (gq.map fun k=>⟨k,0,none⟩) (packS ⟨3,frm,view,place,0,0,Ln.zero,[]⟩).length cq)) w'):=fun gq cq w' h1 h2=>⟨gq,cq,rfl,h1,h2⟩
  go_enter Tryz.func176,Tryz.ntmps176
  go_wp2_with fail
  refine (plainHold frm view place w).mono ?_
  rintro e w1 ⟨rfl,hb1⟩
  have HB1:=hid hb1
  clear hb1
  go_wp2_with fail
  refine (HP.out _ HB1.out).mono ?_
  rintro e w2 ⟨gq,cq,rfl,ho,hb2⟩
  have HO:=hid (ho.base (u:=w) HB1.out.size)
  have HB2:=hid (HB1.out.trans (hb2.mono HB1.out.size))
  clear ho hb2 hm HP
  generalize packS _=pb at *
  unfold sl
  go_wp2
  go_ret
  exact HX.out gq cq _ HO.out HB2.out
theorem methodBeat (v : Value) (w : World) : (method 436 156 v "parley/frames.plain").run Tryz.prog w = .ok (279, v) w := by kernel_rfl
theorem plainBeat (frm view agreed:Int) (w:World):Calls Tryz.prog 279 #[.agg #[.int .i64 frm,.int .i64 view,.int .i64 agreed]] w fun e w'=>e=.returned ((⟨4,frm,view,0,agreed,0,Ln.zero,[]⟩:Fr).val none 0)∧Below w.heap.size w w':=by
  unfold Fr.val sla
  try unfold Ln.zero
  dsimp only
  go_enter Tryz.func279,Tryz.ntmps279
  go_wp2
  refine bodyPost_ret (v:=(⟨4,frm,view,0,agreed,0,Ln.zero,[]⟩:Fr).val none 0) ?_ rfl ⟨rfl,((Below.refl _ _).alloc (Nat.le_refl _) _).alloc (by rw [World.size_alloc];omega) _⟩
  unfold Fr.val sla
  try unfold Ln.zero
  dsimp only
  simp [results,Tryz.results279,go_sem,World.cell?_alloc_at,World.cell?_alloc_new]
theorem bytesBeat (frm view agreed:Int) (w:World):Calls Tryz.prog 176 #[.iface 156 (.agg #[.int .i64 frm,.int .i64 view,.int .i64 agreed])] w (BytesRet w ⟨4,frm,view,0,agreed,0,Ln.zero,[]⟩):=by
  have hm:=methodBeat
  have HP:Hid (∀ z,Below w.heap.size w z→Calls Tryz.prog 32 #[(⟨4,frm,view,0,agreed,0,Ln.zero,[]⟩:Fr).val none 0] z (PackRet z ⟨4,frm,view,0,agreed,0,Ln.zero,[]⟩)):=fun z hz=>framesPack_go _ _ _ z (fun j hj=>absurd hj (by simp)) (by simp) (by simp)
  have HX:Hid (∀ gq cq w',OwnBytes w w' gq cq (packS ⟨4,frm,view,0,agreed,0,Ln.zero,[]⟩)→Below w.heap.size w w'→BytesRet w ⟨4,frm,view,0,agreed,0,Ln.zero,[]⟩ (.returned (.slice (gq.map fun k=>⟨k,0,none⟩) (packS ⟨4,frm,view,0,agreed,0,Ln.zero,[]⟩).length cq)) w'):=fun gq cq w' h1 h2=>⟨gq,cq,rfl,h1,h2⟩
  go_enter Tryz.func176,Tryz.ntmps176
  go_wp2_with fail
  refine (plainBeat frm view agreed w).mono ?_
  rintro e w1 ⟨rfl,hb1⟩
  have HB1:=hid hb1
  clear hb1
  go_wp2_with fail
  refine (HP.out _ HB1.out).mono ?_
  rintro e w2 ⟨gq,cq,rfl,ho,hb2⟩
  have HO:=hid (ho.base (u:=w) HB1.out.size)
  have HB2:=hid (HB1.out.trans (hb2.mono HB1.out.size))
  clear ho hb2 hm HP
  generalize packS _=pb at *
  unfold sl
  go_wp2
  go_ret
  exact HX.out gq cq _ HO.out HB2.out
theorem methodBegin (v : Value) (w : World) : (method 436 158 v "parley/frames.plain").run Tryz.prog w = .ok (280, v) w := by kernel_rfl
theorem plainBegin (frm view agreed:Int) (ls:List Ln) (a:Option Addr) (cap:Nat) (w:World):Calls Tryz.prog 280 #[.agg #[.int .i64 frm,.int .i64 view,.int .i64 agreed,.slice a ls.length cap]] w fun e w'=>e=.returned ((⟨7,frm,view,0,agreed,0,Ln.zero,ls⟩:Fr).val a cap)∧Below w.heap.size w w':=by
  unfold Fr.val sla
  try unfold Ln.zero
  dsimp only
  go_enter Tryz.func280,Tryz.ntmps280
  go_wp2
  refine bodyPost_ret (v:=(⟨7,frm,view,0,agreed,0,Ln.zero,ls⟩:Fr).val a cap) ?_ rfl ⟨rfl,((Below.refl _ _).alloc (Nat.le_refl _) _).alloc (by rw [World.size_alloc];omega) _⟩
  unfold Fr.val sla
  try unfold Ln.zero
  dsimp only
  simp [results,Tryz.results280,go_sem,World.cell?_alloc_at,World.cell?_alloc_new]
theorem bytesBegin (frm view agreed:Int) (ls:List Ln) (a:Option Addr) (cap:Nat) (w:World) (hl:LinesAt w a ls) (hn:ls.length≤100000000) (hcap:ls.length≤cap):Calls Tryz.prog 176 #[.iface 158 (.agg #[.int .i64 frm,.int .i64 view,.int .i64 agreed,.slice a ls.length cap])] w (BytesRet w ⟨7,frm,view,0,agreed,0,Ln.zero,ls⟩):=by
  have hm:=methodBegin
  have HP:Hid (∀ z,Below w.heap.size w z→Calls Tryz.prog 32 #[(⟨7,frm,view,0,agreed,0,Ln.zero,ls⟩:Fr).val a cap] z (PackRet z ⟨7,frm,view,0,agreed,0,Ln.zero,ls⟩)):=fun z hz=>framesPack_go _ _ _ z (hl.below hz) (hn) (hcap)
  have HX:Hid (∀ gq cq w',OwnBytes w w' gq cq (packS ⟨7,frm,view,0,agreed,0,Ln.zero,ls⟩)→Below w.heap.size w w'→BytesRet w ⟨7,frm,view,0,agreed,0,Ln.zero,ls⟩ (.returned (.slice (gq.map fun k=>⟨k,0,none⟩) (packS ⟨7,frm,view,0,agreed,0,Ln.zero,ls⟩).length cq)) w'):=fun gq cq w' h1 h2=>⟨gq,cq,rfl,h1,h2⟩
  go_enter Tryz.func176,Tryz.ntmps176
  go_wp2_with fail
  refine (plainBegin frm view agreed ls a cap w).mono ?_
  rintro e w1 ⟨rfl,hb1⟩
  have HB1:=hid hb1
  clear hb1
  go_wp2_with fail
  refine (HP.out _ HB1.out).mono ?_
  rintro e w2 ⟨gq,cq,rfl,ho,hb2⟩
  have HO:=hid (ho.base (u:=w) HB1.out.size)
  have HB2:=hid (HB1.out.trans (hb2.mono HB1.out.size))
  clear ho hb2 hm HP
  generalize packS _=pb at *
  unfold sl
  go_wp2
  go_ret
  exact HX.out gq cq _ HO.out HB2.out
theorem methodLag (v : Value) (w : World) : (method 436 209 v "parley/frames.plain").run Tryz.prog w = .ok (284, v) w := by kernel_rfl
theorem plainLag (frm view:Int) (w:World):Calls Tryz.prog 284 #[.agg #[.int .i64 frm,.int .i64 view]] w fun e w'=>e=.returned ((⟨8,frm,view,0,0,0,Ln.zero,[]⟩:Fr).val none 0)∧Below w.heap.size w w':=by
  unfold Fr.val sla
  try unfold Ln.zero
  dsimp only
  go_enter Tryz.func284,Tryz.ntmps284
  go_wp2
  refine bodyPost_ret (v:=(⟨8,frm,view,0,0,0,Ln.zero,[]⟩:Fr).val none 0) ?_ rfl ⟨rfl,((Below.refl _ _).alloc (Nat.le_refl _) _).alloc (by rw [World.size_alloc];omega) _⟩
  unfold Fr.val sla
  try unfold Ln.zero
  dsimp only
  simp [results,Tryz.results284,go_sem,World.cell?_alloc_at,World.cell?_alloc_new]
theorem bytesLag (frm view:Int) (w:World):Calls Tryz.prog 176 #[.iface 209 (.agg #[.int .i64 frm,.int .i64 view])] w (BytesRet w ⟨8,frm,view,0,0,0,Ln.zero,[]⟩):=by
  have hm:=methodLag
  have HP:Hid (∀ z,Below w.heap.size w z→Calls Tryz.prog 32 #[(⟨8,frm,view,0,0,0,Ln.zero,[]⟩:Fr).val none 0] z (PackRet z ⟨8,frm,view,0,0,0,Ln.zero,[]⟩)):=fun z hz=>framesPack_go _ _ _ z (fun j hj=>absurd hj (by simp)) (by simp) (by simp)
  have HX:Hid (∀ gq cq w',OwnBytes w w' gq cq (packS ⟨8,frm,view,0,0,0,Ln.zero,[]⟩)→Below w.heap.size w w'→BytesRet w ⟨8,frm,view,0,0,0,Ln.zero,[]⟩ (.returned (.slice (gq.map fun k=>⟨k,0,none⟩) (packS ⟨8,frm,view,0,0,0,Ln.zero,[]⟩).length cq)) w'):=fun gq cq w' h1 h2=>⟨gq,cq,rfl,h1,h2⟩
  go_enter Tryz.func176,Tryz.ntmps176
  go_wp2_with fail
  refine (plainLag frm view w).mono ?_
  rintro e w1 ⟨rfl,hb1⟩
  have HB1:=hid hb1
  clear hb1
  go_wp2_with fail
  refine (HP.out _ HB1.out).mono ?_
  rintro e w2 ⟨gq,cq,rfl,ho,hb2⟩
  have HO:=hid (ho.base (u:=w) HB1.out.size)
  have HB2:=hid (HB1.out.trans (hb2.mono HB1.out.size))
  clear ho hb2 hm HP
  generalize packS _=pb at *
  unfold sl
  go_wp2
  go_ret
  exact HX.out gq cq _ HO.out HB2.out
theorem set3h {w:World} {B:Nat} {a b c:Value} {e:TypeId} {f:Nat × Nat} (h:w.heap[B]?=some (.cells #[a,b,c] e f)) (v0 v1 v2:Value) :
    (((w.setCell ⟨B,0,none⟩ v0).setCell ⟨B,1,none⟩ v1).setCell ⟨B,2,none⟩ v2).heap[B]?=some (.cells #[v0,v1,v2] e f):=by
  have hh:=heap_setCell (heap_setCell (heap_setCell h 0 v0) 1 v1) 2 v2
  simp only [List.setIfInBounds_toArray,List.set_cons_zero,List.set_cons_succ] at hh
  exact hh
def OutRet (w:World) (client:Bool) (tk:Int) (b:List UInt8) (e:Ending) (w':World):Prop:=∃ g c,e=.returned (.agg #[.bool client,.int .i64 tk,sl g b.length c])∧OwnBytes w w' g c b∧Below w.heap.size w w'
theorem OwnBytes.setFar {w x:World} {g:Option Nat} {c:Nat} {l:List UInt8} (h:OwnBytes w x g c l) (B j:Nat) (v:Value) (hn:g≠some B):OwnBytes w (x.setCell ⟨B,j,none⟩ v) g c l :=
  ⟨h.at_.touch1 B j v hn,h.own.setOther B j v hn,h.new⟩
theorem toKeeper_of (x:Value) (f:Fr) (tk:Int) (w:World) (HBy:∀ z,Below w.heap.size w z→Calls Tryz.prog 176 #[x] z (BytesRet z f)):Calls Tryz.prog 135 #[.int .i64 tk,x] w (OutRet w false tk (packS f)):=by
  have HB:=hid HBy
  clear HBy
  have HX:Hid (∀ g c w',OwnBytes w w' g c (packS f)→Below w.heap.size w w'→OutRet w false tk (packS f) (.returned (.agg #[.bool false,.int .i64 tk,.slice (g.map fun k=>⟨k,0,none⟩) (packS f).length c])) w'):=fun g c w' h1 h2=>⟨g,c,rfl,h1,h2⟩
  go_enter Tryz.func135,Tryz.ntmps135
  go_wp2_with fail
  refine (HB.out _ ((Below.refl _ _).alloc (Nat.le_refl _) _)).mono ?_
  rintro e w2 ⟨g,c,rfl,ho,hb2⟩
  rw [World.size_alloc] at hb2
  have hR:w2.heap[w.heap.size]?=some (.cells #[.bool false,.int .i64 0,.slice none 0 0] 71 (0,0)):=by rw [hb2.block _ (by omega)];exact heap_alloc_new w _
  have HR:=hid hR
  have HO:=hid (ho.base (u:=w) (by rw [World.size_alloc];omega))
  have hg:Hid (g≠some w.heap.size):=fun e=>by have:=ho.new _ e;rw [World.size_alloc] at this;omega
  have HB2:Hid (Below w.heap.size w w2):=((Below.refl _ _).alloc (Nat.le_refl _) _).trans (hb2.mono (by omega))
  have q0:w2.cell? ⟨w.heap.size,0,none⟩=some (.bool false):=cell_of_heap hR 0
  have q1:w2.cell? ⟨w.heap.size,1,none⟩=some (.int .i64 0):=cell_of_heap hR 1
  have q2:w2.cell? ⟨w.heap.size,2,none⟩=some (.slice none 0 0):=cell_of_heap hR 2
  have fq:∀ j,w2.frozen? ⟨w.heap.size,j,none⟩=false:=fun j=>frozen_of_heap hR j
  clear ho hb2 hR HB
  unfold sl
  go_wp2
  have h3:=set3h HR.out (.bool false) (.int .i64 tk) (.slice (g.map fun k=>⟨k,0,none⟩) (packS f).length c)
  have z0:=cell_of_heap h3 0
  have z1:=cell_of_heap h3 1
  have z2:=cell_of_heap h3 2
  simp only [List.getElem?_toArray,List.getElem?_cons_zero,List.getElem?_cons_succ] at z0 z1 z2
  refine bodyPost_ret (v:=.agg #[.bool false,.int .i64 tk,.slice (g.map fun k=>⟨k,0,none⟩) (packS f).length c]) ?_ rfl (HX.out g c _ ?_ ?_)
  · simp [results,Tryz.results135,go_sem,z0,z1,z2]
  · exact ((HO.out.setFar _ 0 _ hg.out).setFar _ 1 _ hg.out).setFar _ 2 _ hg.out
  · exact ((HB2.out.setCell (p:=⟨w.heap.size,0,none⟩) (Nat.le_refl _) _).setCell (p:=⟨w.heap.size,1,none⟩) (Nat.le_refl _) _).setCell (p:=⟨w.heap.size,2,none⟩) (Nat.le_refl _) _
theorem toClient_go (view place c t:Int) (s:List UInt8) (w:World):Calls Tryz.prog 183 #[.agg #[.int .i64 view,.int .i64 place,.int .i64 c,.int .i64 t,.string ⟨s.toArray⟩]] w (OutRet w true c (packS ⟨9,0,view,place,0,0,⟨c,t,s⟩,[]⟩)):=by
  have HB:Hid (∀ z,Calls Tryz.prog 176 #[.iface 211 (.agg #[.int .i64 view,.int .i64 place,.int .i64 c,.int .i64 t,.string ⟨s.toArray⟩])] z (BytesRet z ⟨9,0,view,place,0,0,⟨c,t,s⟩,[]⟩)):=fun z=>bytesTold view place c t s z
  unfold BytesRet at HB
  generalize packS ⟨9,0,view,place,0,0,⟨c,t,s⟩,[]⟩=pb at *
  have HX:Hid (∀ g cq w',OwnBytes w w' g cq pb→Below w.heap.size w w'→OutRet w true c pb (.returned (.agg #[.bool true,.int .i64 c,.slice (g.map fun k=>⟨k,0,none⟩) pb.length cq])) w'):=fun g cq w' h1 h2=>⟨g,cq,rfl,h1,h2⟩
  go_enter Tryz.func183,Tryz.ntmps183
  go_wp2
  obtain ⟨Y,hY⟩:∃ Y,Y=(w.alloc (.cells #[.int .i64 view,.int .i64 place,.int .i64 c,.int .i64 t,.string ⟨s.toArray⟩] 211)).alloc (.cells #[.bool false,.int .i64 0,.slice none 0 0] 71):=⟨_,rfl⟩
  rw [← hY]
  have HBY:Hid (Below w.heap.size w Y):=by show Below _ _ _;rw [hY];exact ((Below.refl _ _).alloc (Nat.le_refl _) _).alloc (by rw [World.size_alloc];omega) _
  have HT:Hid (Y.heap[w.heap.size]?=some (.cells #[.int .i64 view,.int .i64 place,.int .i64 c,.int .i64 t,.string ⟨s.toArray⟩] 211 (0,0))):=by show _=_;rw [hY];exact alloc_keep1 (heap_alloc_new w _)
  have HR:Hid (Y.heap[w.heap.size+1]?=some (.cells #[.bool false,.int .i64 0,.slice none 0 0] 71 (0,0))):=by show _=_;rw [hY];exact heap_alloc2 w _ _ _
  have hYs:Y.heap.size=w.heap.size+1+1:=by rw [hY];simp
  clear hY
  have C0:Hid (Y.cell? ⟨w.heap.size,0,none⟩=some (.int .i64 view)∧Y.cell? ⟨w.heap.size,1,none⟩=some (.int .i64 place)∧Y.cell? ⟨w.heap.size,2,none⟩=some (.int .i64 c)∧Y.cell? ⟨w.heap.size,3,none⟩=some (.int .i64 t)∧Y.cell? ⟨w.heap.size,4,none⟩=some (.string ⟨s.toArray⟩)):=⟨cell_of_heap HT.out 0,cell_of_heap HT.out 1,cell_of_heap HT.out 2,cell_of_heap HT.out 3,cell_of_heap HT.out 4⟩
  have hS0:(fun z:World=>z.heap[w.heap.size]?=some (.cells #[.int .i64 view,.int .i64 place,.int .i64 c,.int .i64 t,.string ⟨s.toArray⟩] 211 (0,0))) Y.drew:=HT.out
  refine wp_region_held_drew (S:=fun z:World=>z.heap[w.heap.size]?=some (.cells #[.int .i64 view,.int .i64 place,.int .i64 c,.int .i64 t,.string ⟨s.toArray⟩] 211 (0,0))) (by kernel_rfl) hS0 (fun hS=>?_)
  clear hS0
  refine tH 0 hS ?_
  try simp only [lA,lB,lC,Act.put,lD,lE,lF]
  refine tH 1 hS ?_
  try simp only [lA,lB,lC,Act.put,lD,lE,lF]
  refine tH 2 hS ?_ (hy:=by (intro w hw;have s0:=cell_of_heap hw 0;have s1:=cell_of_heap hw 1;have s2:=cell_of_heap hw 2;have s3:=cell_of_heap hw 3;have s4:=cell_of_heap hw 4;simp only [List.getElem?_toArray,List.getElem?_cons_zero,List.getElem?_cons_succ] at s0 s1 s2 s3 s4;clear hw;go_simp;try with_reducible rfl))
  try simp only [lA,lB,lC,Act.put,lD,lE,lF]
  refine tH 3 hS ?_ (hy:=by (intro w hw;have s0:=cell_of_heap hw 0;have s1:=cell_of_heap hw 1;have s2:=cell_of_heap hw 2;have s3:=cell_of_heap hw 3;have s4:=cell_of_heap hw 4;simp only [List.getElem?_toArray,List.getElem?_cons_zero,List.getElem?_cons_succ] at s0 s1 s2 s3 s4;clear hw;go_simp;try with_reducible rfl))
  try simp only [lA,lB,lC,Act.put,lD,lE,lF]
  refine tH 4 hS ?_
  try simp only [lA,lB,lC,Act.put,lD,lE,lF]
  refine wpAnyH_ready (rs:=[5]) (by kernel_rfl) (by simp) ?_
  refine AllReadyH.cons rfl (fun K hK=>?_) AllReadyH.nil
  go_simp
  refine (HB.out _).mono ?_
  rintro e X1 ⟨g,cq,rfl,ho,hbf⟩
  have hb1:Below Y.heap.size Y X1:=(Below.refl _ Y).drew.trans hbf
  have HT1:Hid (X1.heap[w.heap.size]?=_):=(hb1.block _ (by omega)).trans HT.out
  have HR1:Hid (X1.heap[w.heap.size+1]?=some (.cells #[.bool false,.int .i64 0,.slice none 0 0] 71 (0,0))):=(hb1.block _ (by omega)).trans HR.out
  have HO:=hid (ho.base (u:=w) HBY.out.size)
  have hg:Hid (g≠some (w.heap.size+1)):=fun e=>by have h:Y.heap.size≤_:=ho.new _ e;omega
  have HB1:=hid (HBY.out.trans (hb1.mono HBY.out.size))
  clear hbf ho hb1
  refine hK.out _ _ HT1.out (fun hS=>?_)
  clear hK K
  have q0:X1.cell? ⟨w.heap.size+1,0,none⟩=some (.bool false):=cell_of_heap HR1.out 0
  have q1:X1.cell? ⟨w.heap.size+1,1,none⟩=some (.int .i64 0):=cell_of_heap HR1.out 1
  have q2:X1.cell? ⟨w.heap.size+1,2,none⟩=some (.slice none 0 0):=cell_of_heap HR1.out 2
  have fq:∀ j,X1.frozen? ⟨w.heap.size+1,j,none⟩=false:=fun j=>frozen_of_heap HR1.out j
  unfold sl
  refine tH 6 hS ?_
  try simp only [lA,lB,lC,Act.put,lD,lE,lF]
  refine wpAnyH_ready (rs:=[7]) (by kernel_rfl) (by simp) ?_
  refine AllReadyH.cons rfl (fun KK hKK=>?_) AllReadyH.nil
  go_simp
  have h3:=set3h HR1.out (.bool true) (.int .i64 c) (.slice (g.map fun k=>⟨k,0,none⟩) pb.length cq)
  have z0:=cell_of_heap h3 0
  have z1:=cell_of_heap h3 1
  have z2:=cell_of_heap h3 2
  simp only [List.getElem?_toArray,List.getElem?_cons_zero,List.getElem?_cons_succ] at z0 z1 z2
  refine hKK.out _ _ ?_ (fun hS=>?_)
  · exact (Below.heap_setCell _ _ _ _ (by dsimp only;omega)).trans ((Below.heap_setCell _ _ _ _ (by dsimp only;omega)).trans ((Below.heap_setCell _ _ _ _ (by dsimp only;omega)).trans HT1.out))
  clear hKK KK
  refine wpAnyH_done (by kernel_rfl) ?_ _
  clear hS
  go_wp2
  refine bodyPost_ret (v:=.agg #[.bool true,.int .i64 c,.slice (g.map fun k=>⟨k,0,none⟩) pb.length cq]) ?_ rfl (HX.out g cq _ ?_ ?_)
  · simp [results,Tryz.results183,go_sem,z0,z1,z2]
  · exact ((HO.out.setFar _ 0 _ hg.out).setFar _ 1 _ hg.out).setFar _ 2 _ hg.out
  · exact ((HB1.out.setCell (p:=⟨w.heap.size+1,0,none⟩) (by show _≤_;dsimp only;omega) _).setCell (p:=⟨w.heap.size+1,1,none⟩) (by show _≤_;dsimp only;omega) _).setCell (p:=⟨w.heap.size+1,2,none⟩) (by show _≤_;dsimp only;omega) _
end
end Go.Proofs.YtolififimldmlaaGreat
