import Derived.Test.YtolififimldmlaaGreatPart22
import Derived.Test.YtolififimldmlaaGreatPart23
import Derived.Lib.AppendZeros
import Derived.Test.YtolififimldmlaaGreatPart19
set_option linter.unusedVariables false
set_option linter.unusedSimpArgs false
set_option maxRecDepth 100000
set_option maxHeartbeats 16000000
namespace Go.Proofs.YtolififimldmlaaGreat
section
open Go.RowKit
attribute [local go_sem ↓] Go.wp_at_zero Go.wp_at_succ
def progCells (kp me pa:Int) (gd:Option Nat) (dn cd:Nat) (m:Mm) (gl:Option Nat) (cl:Nat) (arm:Int) (gf:Option Nat) (fn cf:Nat) (ag:Nat) (hs:Nat→Int):Array Value :=
  #[.int .i64 kp,.int .i64 me,.int .i64 pa,sl gd dn cd,.int .i64 m.view,.int .i64 m.last,sl gl m.ls.length cl,.int .i64 arm,sl gf fn cf,.int .i64 ag,
    .int .i64 (hs 0),.int .i64 (hs 1),.int .i64 (hs 2),.int .i64 (hs 3),.int .i64 (hs 4),.int .i64 0,.bool false,.bool false,.bool false,.bool false,.bool false,.slice none 0 0,.bool false]
structure PK (w:World) (K:Nat) (kp me pa:Int) (d:List UInt8) (m:Mm) (arm:Int) (lost:List UInt8) (ag:Nat) (hs:Nat→Int) (gd:Option Nat) (cd:Nat) (gl:Option Nat) (cl:Nat) (gf:Option Nat) (cf:Nat):Prop where
  blk:w.heap[K]?=some (.cells (progCells kp me pa gd d.length cd m gl cl arm gf lost.length cf ag hs) 103 (0,0))
  db:BytesAt w gd d
  dow:OwnRow w 5 1 gd d.length cd
  lb:LinesAt w (gl.map fun k=>(⟨k,0,none⟩:Addr)) m.ls
  low:OwnRow w 27 3 gl m.ls.length cl
  fb:BytesAt w gf lost
  fow:OwnRow w 5 1 gf lost.length cf
  ne1:gd≠some K∧gl≠some K∧gf≠some K
  ne2:(∀ k,gd=some k→gl≠some k)∧(∀ k,gd=some k→gf≠some k)∧(∀ k,gl=some k→gf≠some k)
theorem PK.touch {T:Nat→Prop} {w w':World} {K:Nat} {kp me pa:Int} {d:List UInt8} {m:Mm} {arm:Int} {lost:List UInt8} {ag:Nat} {hs:Nat→Int} {gd gl gf:Option Nat} {cd cl cf:Nat} (h:PK w K kp me pa d m arm lost ag hs gd cd gl cl gf cf)
    (ht:Touch T w w') (hK:¬ T K) (hd:∀ k,gd=some k→¬ T k) (hl:∀ k,gl=some k→¬ T k) (hf:∀ k,gf=some k→¬ T k):PK w' K kp me pa d m arm lost ag hs gd cd gl cl gf cf :=
  ⟨ht.heapAt h.blk hK,h.db.touch ht hd,h.dow.touch ht hd,h.lb.touch ht (fun q e=>by
    cases gl with
    | none=>cases e
    | some g0=>cases e;exact hl g0 rfl),h.low.touch ht hl,h.fb.touch ht hf,h.fow.touch ht hf,h.ne1,h.ne2⟩
def KIs_:KeeperIs:=fun w K F s=>∃ gd cd gl cl gf cf,
  PK w K (if s.dead then 0 else s.kp) (if s.dead then 0 else s.me) (if s.dead then 0 else s.pa) s.d s.mv (if s.dead then 0 else s.arm) s.lost s.av (if s.dead then fun _=>0 else s.hs) gd cd gl cl gf cf∧∀ k,F k↔(k=K∨gd=some k∨gl=some k∨gf=some k)
theorem keepsSaid_:KeepsSaid KIs_:=fun T w w' K F s h ht hn=>by
  obtain ⟨gd,cd,gl,cl,gf,cf,h1,h2⟩:=h
  exact ⟨gd,cd,gl,cl,gf,cf,h1.touch ht (hn K ((h2 K).2 (.inl rfl))) (fun k e=>hn k ((h2 k).2 (.inr (.inl e)))) (fun k e=>hn k ((h2 k).2 (.inr (.inr (.inl e))))) (fun k e=>hn k ((h2 k).2 (.inr (.inr (.inr e))))),h2⟩
theorem run_field3 (w:World) (a b c:Value):(Instr.field 94 (.agg #[a,b,c]) 2).run Tryz.prog w=.ok c w:=by
  unfold Instr.field
  simp [go_sem,asAgg]
attribute [local go_sem] run_field3
theorem PK.below {w:World} {K:Nat} {kp me pa:Int} {d:List UInt8} {m:Mm} {arm:Int} {lost:List UInt8} {ag:Nat} {hs:Nat→Int} {gd gl gf:Option Nat} {cd cl cf:Nat} (h:PK w K kp me pa d m arm lost ag hs gd cd gl cl gf cf) {w':World} (hb:Below w.heap.size w w'):PK w' K kp me pa d m arm lost ag hs gd cd gl cl gf cf :=
  h.touch (Touch.of_belowAll hb (fun _=>False)) (fun e=>e) (fun _ _ e=>e) (fun _ _ e=>e) (fun _ _ e=>e)
theorem said_go (K:Nat) (kp me pa:Int) (d:List UInt8) (m:Mm) (arm:Int) (lost:List UInt8) (ag:Nat) (hs:Nat→Int) (gd:Option Nat) (cd:Nat) (gl:Option Nat) (cl:Nat) (gf:Option Nat) (cf:Nat) (w:World) (h:PK w K kp me pa d m arm lost ag hs gd cd gl cl gf cf) :
    Calls Tryz.prog 47 #[.pointer (some ⟨K,3,none⟩)] w fun e w'=>e=.returned (.agg #[.int .i64 m.view,.int .i64 m.last,sl gl m.ls.length cl])∧Below w.heap.size w w':=by
  have c4:w.cell? ⟨K,4,none⟩=some (.int .i64 m.view):=cell_of_heap h.blk 4
  have c5:w.cell? ⟨K,5,none⟩=some (.int .i64 m.last):=cell_of_heap h.blk 5
  have c6:w.cell? ⟨K,6,none⟩=some (sl gl m.ls.length cl):=cell_of_heap h.blk 6
  have hK:K < w.heap.size:=heap_lt h.blk
  have hK2:K≠w.heap.size:=by omega
  clear h
  unfold sl at *
  go_enter Tryz.func47,Tryz.ntmps47
  go_wp2
  refine bodyPost_ret (v:=.agg #[.int .i64 m.view,.int .i64 m.last,.slice (gl.map fun g=>⟨g,0,none⟩) m.ls.length cl]) ?_ rfl ⟨rfl,(Below.refl _ _).alloc (Nat.le_refl _) _⟩
  simp [results,Tryz.results47,go_sem,World.cell?_alloc_new]
theorem lines_go (K:Nat) (kp me pa:Int) (d:List UInt8) (m:Mm) (arm:Int) (lost:List UInt8) (ag:Nat) (hs:Nat→Int) (gd:Option Nat) (cd:Nat) (gl:Option Nat) (cl:Nat) (gf:Option Nat) (cf:Nat) (w:World) (h:PK w K kp me pa d m arm lost ag hs gd cd gl cl gf cf) :
    Calls Tryz.prog 83 #[.pointer (some ⟨K,0,none⟩)] w fun e w'=>e=.returned (sl gl m.ls.length cl)∧Below w.heap.size w w':=by
  have HP:=hid h
  clear h
  go_enter Tryz.func83,Tryz.ntmps83
  go_wp2_with fail
  refine (said_go K kp me pa d m arm lost ag hs gd cd gl cl gf cf _ HP.out).mono ?_
  rintro e w2 ⟨rfl,hb⟩
  unfold sl
  go_wp2
  go_ret
  exact ⟨rfl,hb⟩
theorem state_go (K:Nat) (kp me pa:Int) (d:List UInt8) (m:Mm) (arm:Int) (lost:List UInt8) (ag:Nat) (hs:Nat→Int) (gd:Option Nat) (cd:Nat) (gl:Option Nat) (cl:Nat) (gf:Option Nat) (cf:Nat) (w:World) (h:PK w K kp me pa d m arm lost ag hs gd cd gl cl gf cf) :
    Calls Tryz.prog 26 #[.pointer (some ⟨K,0,none⟩)] w fun e w'=>e=.returned (.agg #[.int .i64 m.view,.int .i64 m.last,.int .i64 m.ls.length,.int .i64 ag])∧Below w.heap.size w w':=by
  have HP:=hid h
  have hK:K < w.heap.size:=heap_lt h.blk
  clear h
  go_enter Tryz.func26,Tryz.ntmps26
  go_wp2_with fail
  refine (said_go K kp me pa d m arm lost ag hs gd cd gl cl gf cf _ (HP.out.below ((Below.refl _ _).alloc (Nat.le_refl _) _))).mono ?_
  rintro e w2 ⟨rfl,hb⟩
  rw [World.size_alloc] at hb
  have HB:Hid (Below w.heap.size w w2):=((Below.refl _ _).alloc (Nat.le_refl _) _).trans (hb.mono (by omega))
  have hR:w2.heap[w.heap.size]?=some (.cells #[.int .i64 0,.int .i64 0,.int .i64 0,.int .i64 0] 67 (0,0)):=by rw [hb.block _ (by omega)];exact heap_alloc_new w _
  have c9:w2.cell? ⟨K,9,none⟩=some (.int .i64 ag):=cell_of_heap (HP.out.below HB.out).blk 9
  have hs2:w.heap.size < w2.heap.size:=heap_lt hR
  clear hb
  unfold sl
  go_wp2
  generalize hY:w2.alloc (.cells #[.int .i64 m.view,.int .i64 m.last,.slice (gl.map fun g=>⟨g,0,none⟩) m.ls.length cl] 94)=Y
  have y0:Y.cell? ⟨w2.heap.size,0,none⟩=some (.int .i64 m.view):=by rw [← hY];exact World.cell?_alloc_new _ _ _ _
  have y1:Y.cell? ⟨w2.heap.size,1,none⟩=some (.int .i64 m.last):=by rw [← hY];exact World.cell?_alloc_new _ _ _ _
  have y2:Y.cell? ⟨w2.heap.size,2,none⟩=some (.slice (gl.map fun g=>⟨g,0,none⟩) m.ls.length cl):=by rw [← hY];exact World.cell?_alloc_new _ _ _ _
  have y9:Y.cell? ⟨K,9,none⟩=some (.int .i64 ag):=by rw [← hY,World.cell?_alloc_past _ _ _ (by omega)];exact c9
  have HR:Hid (Y.heap[w.heap.size]?=some (.cells #[.int .i64 0,.int .i64 0,.int .i64 0,.int .i64 0] 67 (0,0))):=by show _=_;rw [← hY];exact alloc_keep1 hR
  have q0:Y.cell? ⟨w.heap.size,0,none⟩=some (.int .i64 0):=cell_of_heap HR.out 0
  have q1:Y.cell? ⟨w.heap.size,1,none⟩=some (.int .i64 0):=cell_of_heap HR.out 1
  have q2:Y.cell? ⟨w.heap.size,2,none⟩=some (.int .i64 0):=cell_of_heap HR.out 2
  have q3:Y.cell? ⟨w.heap.size,3,none⟩=some (.int .i64 0):=cell_of_heap HR.out 3
  have fq:∀ j,Y.frozen? ⟨w.heap.size,j,none⟩=false:=fun j=>frozen_of_heap HR.out j
  have BY:Hid (Below w.heap.size w Y):=by show Below _ _ _;rw [← hY];exact HB.out.alloc HB.out.size _
  clear hY c9 hR
  go_still_tail 11,(by kernel_rfl)
  go_wp2
  have h4:=heap_setCell (heap_setCell (heap_setCell (heap_setCell HR.out 0 (.int .i64 m.view)) 1 (.int .i64 m.last)) 2 (.int .i64 m.ls.length)) 3 (.int .i64 ag)
  simp only [List.setIfInBounds_toArray,List.set_cons_zero,List.set_cons_succ] at h4
  have z0:=cell_of_heap h4 0
  have z1:=cell_of_heap h4 1
  have z2:=cell_of_heap h4 2
  have z3:=cell_of_heap h4 3
  simp only [List.getElem?_toArray,List.getElem?_cons_zero,List.getElem?_cons_succ] at z0 z1 z2 z3
  refine bodyPost_ret (v:=.agg #[.int .i64 m.view,.int .i64 m.last,.int .i64 m.ls.length,.int .i64 ag]) ?_ rfl ⟨rfl,?_⟩
  · simp [results,Tryz.results26,go_sem,z0,z1,z2,z3]
  · exact ((((BY.out.setCell (p:=⟨w.heap.size,0,none⟩) (Nat.le_refl _) _).setCell (p:=⟨w.heap.size,1,none⟩) (Nat.le_refl _) _).setCell (p:=⟨w.heap.size,2,none⟩) (Nat.le_refl _) _).setCell (p:=⟨w.heap.size,3,none⟩) (Nat.le_refl _) _).drew
theorem stateSaid_:StateSaid KIs_:=fun w K F s h hok=>by
  obtain ⟨gd,cd,gl,cl,gf,cf,h1,_⟩:=h
  exact state_go K _ _ _ _ _ _ _ _ _ gd cd gl cl gf cf w h1
end
section
open Go.RowKit
attribute [local go_sem ↓] Go.wp_at_zero Go.wp_at_succ
attribute [local go_sem] run_field3
theorem agreedLines_go (K:Nat) (kp me pa:Int) (d:List UInt8) (m:Mm) (arm:Int) (lost:List UInt8) (ag:Nat) (hs:Nat→Int) (gd:Option Nat) (cd:Nat) (gl:Option Nat) (cl:Nat) (gf:Option Nat) (cf:Nat) (w:World) (h:PK w K kp me pa d m arm lost ag hs gd cd gl cl gf cf) (hag:ag≤m.ls.length) :
    Calls Tryz.prog 44 #[.pointer (some ⟨K,0,none⟩)] w fun e w'=>e=.returned (sl gl ag cl)∧Below w.heap.size w w':=by
  have HP:=hid h
  have hcl:m.ls.length≤cl:=by
    rcases h.low with ⟨_,h1,_⟩ | ⟨_,_,_,_,_,h1,_⟩
    · omega
    · exact h1
  have a0:(0:Int)≤(ag:Int):=by omega
  have a1:(ag:Int)≤(cl:Int):=by omega
  have h9:w.cell? ⟨K,9,none⟩=some (.int .i64 ag):=cell_of_heap h.blk 9
  have LV:Hid (∀ z,Below w.heap.size w z→Calls Tryz.prog 83 #[.pointer (some ⟨K,0,none⟩)] z fun e w'=>e=.returned (.slice (gl.map fun k=>⟨k,0,none⟩) m.ls.length cl)∧Below z.heap.size z w'):=fun z hz=>lines_go K kp me pa d m arm lost ag hs gd cd gl cl gf cf z (h.below hz)
  have H9:=hid h9
  clear h h9
  unfold sl
  cases gl with
  | none =>
    simp only [Option.map_none] at LV ⊢
    go_enter Tryz.func44,Tryz.ntmps44
    go_wp2
    have hS0:(fun z:World=>Below w.heap.size w z∧z.cell? ⟨K,9,none⟩=some (.int .i64 ag)) w.drew:=⟨(Below.refl _ _).drew,H9.out⟩
    refine wp_region_held_drew (S:=fun z:World=>Below w.heap.size w z∧z.cell? ⟨K,9,none⟩=some (.int .i64 ag)) (by kernel_rfl) hS0 (fun hS=>?_)
    clear hS0
    refine tH 0 hS ?_
    try simp only [lA,lB,lC,Act.put,lD,lE,lF]
    refine tH 2 hS ?_
    try simp only [lA,lB,lC,Act.put,lD,lE,lF]
    refine tH 3 hS ?_
    try simp only [lA,lB,lC,Act.put,lD,lE,lF]
    refine tH 4 hS ?_
    try simp only [lA,lB,lC,Act.put,lD,lE,lF]
    refine tH 5 hS ?_ (hy:=by (intro w hw;obtain ⟨_,s1⟩:=hw;go_simp;try with_reducible rfl))
    try simp only [lA,lB,lC,Act.put,lD,lE,lF]
    refine wpAnyH_ready (rs:=[1]) (by kernel_rfl) (by simp) ?_
    refine AllReadyH.cons rfl (fun K hK=>?_) AllReadyH.nil
    go_simp
    refine (LV.out _ hS.1).mono ?_
    rintro e Y4 ⟨rfl,hbf⟩
    have HX:=hid (hS.1.trans (hbf.mono hS.1.size))
    clear hbf
    refine hK.out _ _ ⟨HX.out,(Below.cell HX.out (World.block_lt_of_cell? _ _ H9.out)).trans H9.out⟩ (fun hS=>?_)
    clear hK K
    refine tH 6 hS ?_
    try simp only [lA,lB,lC,Act.put,lD,lE,lF]
    refine tH 7 hS ?_
    try simp only [lA,lB,lC,Act.put,lD,lE,lF]
    refine wpAnyH_done (by kernel_rfl) ?_ _
    clear hS
    go_wp2
    go_ret
    exact ⟨rfl,HX.out⟩
  | some g =>
    simp only [Option.map_some] at LV ⊢
    go_enter Tryz.func44,Tryz.ntmps44
    go_wp2
    have hS0:(fun z:World=>Below w.heap.size w z∧z.cell? ⟨K,9,none⟩=some (.int .i64 ag)) w.drew:=⟨(Below.refl _ _).drew,H9.out⟩
    refine wp_region_held_drew (S:=fun z:World=>Below w.heap.size w z∧z.cell? ⟨K,9,none⟩=some (.int .i64 ag)) (by kernel_rfl) hS0 (fun hS=>?_)
    clear hS0
    refine tH 0 hS ?_
    try simp only [lA,lB,lC,Act.put,lD,lE,lF]
    refine tH 2 hS ?_
    try simp only [lA,lB,lC,Act.put,lD,lE,lF]
    refine tH 3 hS ?_
    try simp only [lA,lB,lC,Act.put,lD,lE,lF]
    refine tH 4 hS ?_
    try simp only [lA,lB,lC,Act.put,lD,lE,lF]
    refine tH 5 hS ?_ (hy:=by (intro w hw;obtain ⟨_,s1⟩:=hw;go_simp;try with_reducible rfl))
    try simp only [lA,lB,lC,Act.put,lD,lE,lF]
    refine wpAnyH_ready (rs:=[1]) (by kernel_rfl) (by simp) ?_
    refine AllReadyH.cons rfl (fun K hK=>?_) AllReadyH.nil
    go_simp
    refine (LV.out _ hS.1).mono ?_
    rintro e Y4 ⟨rfl,hbf⟩
    have HX:=hid (hS.1.trans (hbf.mono hS.1.size))
    clear hbf
    refine hK.out _ _ ⟨HX.out,(Below.cell HX.out (World.block_lt_of_cell? _ _ H9.out)).trans H9.out⟩ (fun hS=>?_)
    clear hK K
    refine tH 6 hS ?_
    try simp only [lA,lB,lC,Act.put,lD,lE,lF]
    refine tH 7 hS ?_
    try simp only [lA,lB,lC,Act.put,lD,lE,lF]
    refine wpAnyH_done (by kernel_rfl) ?_ _
    clear hS
    go_wp2
    go_ret
    exact ⟨rfl,HX.out⟩
theorem agreed_go (K:Nat) (kp me pa:Int) (d:List UInt8) (m:Mm) (arm:Int) (lost:List UInt8) (ag:Nat) (hs:Nat→Int) (gd:Option Nat) (cd:Nat) (gl:Option Nat) (cl:Nat) (gf:Option Nat) (cf:Nat) (w:World) (h:PK w K kp me pa d m arm lost ag hs gd cd gl cl gf cf) (hag:ag≤m.ls.length) (h20:m.ls.length≤20) :
    Calls Tryz.prog 24 #[.pointer (some ⟨K,0,none⟩)] w fun e w'=>∃ g c,e=.returned (sl g (m.ls.take ag).length c)∧OwnLines w w' g c (m.ls.take ag)∧Below w.heap.size w w':=by
  have HP:=hid h
  have HL:Hid (LinesAt w (gl.map fun k=>(⟨k,0,none⟩:Addr)) (m.ls.take ag)):=h.lb.take ag
  have hlen:(m.ls.take ag).length=ag:=by rw [List.length_take];omega
  have AV:=hid (agreedLines_go K kp me pa d m arm lost ag hs gd cd gl cl gf cf w h hag)
  clear h HP
  rw [hlen]
  generalize m.ls.take ag=ls at *
  subst hlen
  obtain ⟨il,hil,hil0,hil1,hil2⟩:=info_parts Tryz.info27
  have HSRC:=hid (fun x (h:LinesAt x (gl.map fun k=>(⟨k,0,none⟩:Addr)) ls)=>lines_src (gl.map fun k=>(⟨k,0,none⟩:Addr)) cl ls x h)
  go_enter Tryz.func24,Tryz.ntmps24
  go_wp2_with fail
  refine AV.out.mono ?_
  rintro e w2 ⟨rfl,hb⟩
  have HB:=hid hb
  clear hb
  unfold sl
  go_wp2_with (at_builtin;refine wpList_appN _ rfl (.const (.slice none 0 0)) (.tmp 4) 28 28 rfl 27 il (.agg #[.int .i64 0,.int .i64 0,.string ⟨#[]⟩]) 3 32 Tryz.underlying28 hil hil0 hil1 hil2 rfl (by rfl) _ rfl ls.length (lnCells ls) (HSRC.out _ (HL.out.below HB.out)) (by omega) (by omega) ?_)
  intro g1 c1 w1 P
  have HO1:=hid (P.lines.base (u:=w) HB.out.size)
  have HB1:=hid (HB.out.trans (P.below.mono HB.out.size))
  clear P
  unfold sl
  go_wp2
  go_ret
  exact ⟨g1,c1,rfl,HO1.out,HB1.out⟩
theorem agreedSaid_:AgreedSaid KIs_:=fun w K F s h hok=>by
  obtain ⟨gd,cd,gl,cl,gf,cf,h1,_⟩:=h
  exact agreed_go K _ _ _ _ _ _ _ _ _ gd cd gl cl gf cf w h1 (LK.av_le hok) (LK.mv_len hok)
theorem wpList_appRun {P:Program} {w:World} {ops:Array Oper} {rest:List Oper} {o:Oper} {a:Act} {Q:Exit→Act→World→Prop} (hgd:o.guard=none) (s y:Operand) (t tx:TypeId)
    (ho:o.op=.call { callee:=.builtin .append,args:=#[s,y],argTypes:=#[t,tx] }) (x1 x2 v:Value) (w':World) (hq:a.eval s=x1) (hx:a.eval y=x2) (hr:(Builtin.append_ #[t,tx] o.type #[x1,x2]).run P w=.ok v w')
    (h:wpList P ops Q rest (a.put o.dst v) w'):wpList P ops Q (o :: rest) a w:=by
  refine wpList_plain hgd fun _ hK=>?_
  unfold Oper.wp execOp
  simp only [ho,resolve,invoke,builtin,Sem.run_bind,Sem.run_pure,Result.andThen_ok,List.map_toArray,List.map_cons,List.map_nil,hq,hx,hr]
  exact hK _ _ h
theorem grow_go (n:Nat) (w:World) (hn:n≤20000000) :
    Calls Tryz.prog 141 #[.slice none 0 0,.int .i64 n] w fun e w'=>∃ b c,e=.returned (sl b 0 c)∧OwnBytes w w' b c []∧Below w.heap.size w w':=by
  obtain ⟨ib,hib,hib0,hib1,hib2⟩:=info_parts Tryz.info5
  rcases Nat.eq_zero_or_pos n with h0 | h0
  · subst h0
    go_enter Tryz.func141,Tryz.ntmps141
    go_wp2
    go_ret
    exact ⟨none,0,rfl,⟨fun j hj=>absurd hj (by simp),.inl ⟨rfl,rfl,rfl⟩,fun k e=>by cases e⟩,Below.refl _ _⟩
  · have hrun:=Lib.run_append_nil_zeros (P:=Tryz.prog) w 31 3 31 5 ib (.int .u8 0) .i64 .i64 Tryz.underlying31 Tryz.underlying3 hib hib0 n h0 (by omega) (by omega) (by rw [hib2];omega)
    have hge:=grownCap_ge w n 0 5
    have hcm:grownCap w n 0 5≤maxLen:=grownCap_le_maxLen w n 0 5 (by simp only [maxLen];omega)
    generalize grownCap w n 0 5=c at *
    have hz:OwnRow (w.drew.alloc (.cells (Builtin.zeroCells (Value.int .u8 0).cells n++Builtin.zeroCells (Value.int .u8 0).cells (c - n)) 5)) 5 1 (some w.heap.size) 0 c:=.inr ⟨_,_,rfl,heap_alloc_new w.drew _,by rw [Array.size_append,size_zeroCells,size_zeroCells];show n * 1+(c - n) * 1=c * 1;omega,Nat.zero_le _,hcm⟩
    have HZ:=hid hz
    have n0:(0:Int) < (n:Int):=by omega
    have n1:¬ ((n:Int) < 0):=by omega
    clear hz hcm
    generalize hY:w.drew.alloc (.cells (Builtin.zeroCells (Value.int .u8 0).cells n++Builtin.zeroCells (Value.int .u8 0).cells (c - n)) 5)=Y at *
    have HB:Hid (Below w.heap.size w Y):=by show Below _ _ _;rw [← hY];exact ((Below.refl _ w).drew).alloc (Nat.le_refl _) _
    clear hY
    go_enter Tryz.func141,Tryz.ntmps141
    go_wp2_with (at_builtin;refine wpList_appRun rfl (.tmp 20) (.tmp 21) 31 3 rfl _ _ _ _ rfl rfl hrun ?_)
    go_wp2
    go_ret
    exact ⟨some w.heap.size,c,rfl,⟨fun j hj=>absurd hj (by simp),HZ.out,fun k e=>by cases e;exact Nat.le_refl _⟩,HB.out⟩
end
section
open Go.RowKit
attribute [local go_sem ↓] Go.wp_at_zero Go.wp_at_succ
theorem run_appB {w0 w:World} {b:Option Nat} {c:Nat} {l l2:List UInt8} (ty tx:TypeId) (x:Value) (h:OwnBytes w0 w b c l) (hb:Below w0.heap.size w0 w) (hs:Src Tryz.prog 1 tx x l2.length (u8cells l2) w) (hn:l.length+l2.length≤100000000) :
    ∃ b' c' w',(Builtin.append_ #[31,tx] ty #[sl b l.length c,x]).run Tryz.prog w=.ok (sl b' (l.length+l2.length) c') w'∧OwnBytes w0 w' b' c' (l++l2)∧Below w0.heap.size w0 w':=by
  obtain ⟨ib,hib,hib0,hib1,hib2⟩:=info_parts Tryz.info5
  have hsz:=hb.size
  cases b with
  | none =>
    rcases h.own with ⟨_,h1,h2⟩ | ⟨g,_,h1,_⟩
    · have hl:l=[]:=by cases l with
        | nil=>rfl
        | cons _ _=>simp at h1
      subst hl
      subst h2
      obtain ⟨b',c',w',hr,P⟩:=run_appN (P:=Tryz.prog) w 31 tx ty 5 ib (.int .u8 0) 1 1 Tryz.underlying31 hib hib0 hib1 hib2 rfl x l2.length (u8cells l2) hs (by omega) (by omega)
      have PB:=P.bytes rfl
      refine ⟨b',c',w',by rw [List.length_nil,Nat.zero_add];exact hr,?_,hb.trans (P.below.mono hsz)⟩
      rw [List.nil_append]
      exact ⟨PB.1,PB.2,fun k e=>Nat.le_trans hsz (P.fresh k e)⟩
    · cases h1
  | some g =>
    obtain ⟨g',c',w',hr,P⟩:=run_appS (P:=Tryz.prog) w 31 tx ty 5 ib (.int .u8 0) 1 1 Tryz.underlying31 hib hib0 hib1 hib2 rfl g l.length c h.own x l2.length (u8cells l2) hs (by omega) (by omega)
    have G:=(Grew.refl h.at_ h.own).app P rfl rfl rfl
    refine ⟨some g',c',w',hr,⟨G.at_,G.own,fun k e=>?_⟩,hb.trans (G.touch.below hsz (fun k _ e=>h.new k e))⟩
    have e:=Option.some.inj e
    subst e
    rcases G.lies with e | e
    · exact h.new _ e
    · omega
def catTo (l1 l2:List UInt8) (k:Nat):List UInt8:=if k=0 then [] else if k=1 then l1 else l1++l2
theorem concat_go (B:Nat) (a1 a2:Option Addr) (c1 c2:Nat) (l1 l2:List UInt8) (w:World) (hB:w.heap[B]?=some (.cells #[.slice a1 l1.length c1,.slice a2 l2.length c2] 31 (0,0))) (h1:BytesIn w a1 l1) (h2:BytesIn w a2 l2) (hn:l1.length+l2.length≤9900000) :
    Calls Tryz.prog 90 #[.slice (some ⟨B,0,none⟩) 2 2] w fun e w'=>∃ b c,e=.returned (sl b (l1++l2).length c)∧OwnBytes w w' b c (l1++l2)∧Below w.heap.size w w':=by
  have e0:w.cell? ⟨B,0,none⟩=some (.slice a1 l1.length c1):=cell_of_heap hB 0
  have e1:w.cell? ⟨B,1,none⟩=some (.slice a2 l2.length c2):=cell_of_heap hB 1
  have H1:=hid h1
  have H2:=hid h2
  have E0:=hid e0
  have E1:=hid e1
  clear hB h1 h2
  go_enter Tryz.func90,Tryz.ntmps90
  go_wp2
  go_loopw [3,11] (fun n i wr=>∃ k:Nat,k≤2∧i=.int .i64 k∧n=.int .i64 (catTo l1 l2 k).length∧w=wr) (fun _ i _=>2 - (intOf i).toNat)
  case atStart=>exact ⟨0,by omega,rfl,rfl,rfl⟩
  case round =>
    obtain ⟨k,hk,rfl,rfl,rfl⟩:=hrel
    have hk3:k=0∨k=1∨k=2:=by omega
    rcases hk3 with rfl | rfl | rfl
    · have z0:(catTo l1 l2 0).length=0:=rfl
      have n0:¬ ((l1.length:Int) < 0):=by omega
      rw [z0]
      go_wp2
      go_roundw
      case rel=>exact ⟨1,by omega,rfl,by simp [catTo],by first | rfl | trivial⟩
      case measure=>simp [intOf]
    · have z1:(catTo l1 l2 1).length=l1.length:=rfl
      have w1:IntKind.i64.wrap ((l1.length:Int)+(l2.length:Int))=(l1.length:Int)+(l2.length:Int):=by rw [IntWalk.i64_left,IntWalk.wrap64_in _ (by omega)]
      have n0:¬ ((l1.length:Int)+(l2.length:Int) < 0):=by omega
      rw [z1]
      go_wp2
      go_roundw
      case rel=>exact ⟨2,by omega,rfl,by simp [catTo],by first | rfl | trivial⟩
      case measure=>simp [intOf]
    · have z2:(catTo l1 l2 2)=l1++l2:=rfl
      rw [z2]
      have HG:=hid (grow_go (l1++l2).length w (by rw [List.length_append];omega))
      clear e0 e1
      generalize hN:(l1++l2).length=N at *
      go_wp2_with fail
      refine HG.out.mono ?_
      rintro e w2 ⟨b0,c0,rfl,hob,hbe⟩
      have HOB:=hid hob
      have HBE:=hid hbe
      clear hob hbe
      unfold sl
      go_wp2
      go_loopw [6,27] (fun v i wr=>∃ (k:Nat) (b:Option Nat) (c n:Nat),k≤2∧i=.int .i64 k∧v=.slice (b.map fun g=>⟨g,0,none⟩) n c∧n=(catTo l1 l2 k).length∧Hid (OwnBytes w wr b c (catTo l1 l2 k))∧Hid (Below w.heap.size w wr)) (fun _ i _=>2 - (intOf i).toNat)
      case atStart=>exact ⟨0,b0,c0,0,by omega,rfl,rfl,rfl,HOB.out,HBE.out⟩
      case round =>
        obtain ⟨k,b,c,n,hk,rfl,rfl,hn2,HO,HB⟩:=hrel
        have hk3:k=0∨k=1∨k=2:=by omega
        have x0:wr.cell? ⟨B,0,none⟩=some (.slice a1 l1.length c1):=(HB.out.cell (World.block_lt_of_cell? _ _ E0.out)).trans E0.out
        have x1:wr.cell? ⟨B,1,none⟩=some (.slice a2 l2.length c2):=(HB.out.cell (World.block_lt_of_cell? _ _ E1.out)).trans E1.out
        rcases hk3 with rfl | rfl | rfl
        · subst hn2
          obtain ⟨b',c',w',hr,ho,hb'⟩:=run_appB (l2:=l1) 31 31 (.slice a1 l1.length c1) HO.out HB.out (bytes_src a1 l1.length c1 l1 wr (H1.out.below HB.out) rfl) (by show (catTo l1 l2 0).length+l1.length≤_;simp [catTo];omega)
          have HR:=hid hr
          have HO':=hid ho
          have HB':=hid hb'
          clear hr ho hb'
          unfold sl at HR
          go_wp2_with (at_builtin;refine wpList_appRun rfl (.tmp 31) (.tmp 32) 31 31 rfl _ _ _ _ rfl rfl HR.out ?_)
          go_wp2
          go_roundw
          case rel=>exact ⟨1,b',c',_,by omega,rfl,rfl,by simp [catTo],by simpa [catTo] using HO',HB'⟩
          case measure=>simp [intOf]
        · subst hn2
          obtain ⟨b',c',w',hr,ho,hb'⟩:=run_appB (l2:=l2) 31 31 (.slice a2 l2.length c2) HO.out HB.out (bytes_src a2 l2.length c2 l2 wr (H2.out.below HB.out) rfl) (by show (catTo l1 l2 1).length+l2.length≤_;simp [catTo];omega)
          have HR:=hid hr
          have HO':=hid ho
          have HB':=hid hb'
          clear hr ho hb'
          unfold sl at HR
          go_wp2_with (at_builtin;refine wpList_appRun rfl (.tmp 31) (.tmp 32) 31 31 rfl _ _ _ _ rfl rfl HR.out ?_)
          go_wp2
          go_roundw
          case rel=>exact ⟨2,b',c',_,by omega,rfl,rfl,by simp [catTo],by simpa [catTo] using HO',HB'⟩
          case measure=>simp [intOf]
        · have z2:(catTo l1 l2 2)=l1++l2:=rfl
          rw [z2] at hn2 HO
          subst hn2
          go_wp2
          go_ret
          exact ⟨b,c,rfl,HO.out,HB.out⟩
theorem BytesAt.inO {w:World} {g:Option Nat} {l:List UInt8} (h:BytesAt w g l):BytesIn w (g.map fun k=>(⟨k,0,none⟩:Addr)) l:=fun j hj=>by
  obtain ⟨k,e,hc⟩:=h j hj
  subst e
  exact ⟨k,0,rfl,by rw [Nat.zero_add];exact hc⟩
theorem bytes_at (K:Nat) (kp me pa:Int) (d:List UInt8) (m:Mm) (arm:Int) (lost:List UInt8) (ag:Nat) (hs:Nat→Int) (gd:Option Nat) (cd:Nat) (gl:Option Nat) (cl:Nat) (gf:Option Nat) (cf:Nat) (w:World) (h:PK w K kp me pa d m arm lost ag hs gd cd gl cl gf cf) (hn:d.length+lost.length≤9900000)
    (keep:Int) (kk:Nat) (hk:min (max keep 0) (lost.length:Int)=kk) :
    Calls Tryz.prog 49 #[.pointer (some ⟨K,3,none⟩),.int .i64 keep] w fun e w'=>∃ g c,e=.returned (sl g (d++lost.take kk).length c)∧OwnBytes w w' g c (d++lost.take kk)∧Below w.heap.size w w':=by
  have hkl:kk≤lost.length:=by omega
  have c3:w.cell? ⟨K,3,none⟩=some (sl gd d.length cd):=cell_of_heap h.blk 3
  have c8:w.cell? ⟨K,8,none⟩=some (sl gf lost.length cf):=cell_of_heap h.blk 8
  have hcf:lost.length≤cf:=by
    rcases h.fow with ⟨_,h1,_⟩ | ⟨_,_,_,_,_,h1,_⟩
    · omega
    · exact h1
  have HD:Hid (BytesIn w (gd.map fun k=>(⟨k,0,none⟩:Addr)) d):=h.db.inO
  have HF:Hid (BytesIn w (gf.map fun k=>(⟨k,0,none⟩:Addr)) (lost.take kk)):=h.fb.inO.take kk
  have hlk:(lost.take kk).length=kk:=by rw [List.length_take];omega
  have k0:(0:Int)≤(kk:Int):=by omega
  have k1:(kk:Int)≤(cf:Int):=by omega
  clear h
  unfold sl at c3 c8
  have HC:Hid (∀ (B:Nat) (z:World),z.heap[B]?=some (.cells #[.slice (gd.map fun g=>⟨g,0,none⟩) d.length cd,.slice (gf.map fun g=>⟨g,0,none⟩) kk cf] 31 (0,0))→Below w.heap.size w z →
      Calls Tryz.prog 90 #[.slice (some ⟨B,0,none⟩) 2 2] z fun e w'=>∃ b c,e=.returned (sl b (d++lost.take kk).length c)∧OwnBytes w w' b c (d++lost.take kk)∧Below w.heap.size w w'):=fun B z hB hb=>by
    rw [← hlk] at hB
    refine (concat_go B (gd.map fun g=>⟨g,0,none⟩) (gf.map fun g=>⟨g,0,none⟩) cd cf d (lost.take kk) z hB (HD.out.below hb) (HF.out.below hb) (by rw [hlk];omega)).mono ?_
    rintro e w' ⟨b,c,he,ho,hb'⟩
    exact ⟨b,c,he,ho.base hb.size,hb.trans (hb'.mono hb.size)⟩
  clear HD HF
  generalize hlt:d++lost.take kk=ll at *
  clear hlt hlk
  have hl0:¬ ((lost.length:Int) < 0):=by omega
  have h3:(keep < 0∧kk=0)∨(keep=kk)∨((lost.length:Int) < keep∧kk=lost.length∧¬ keep < 0):=by omega
  rcases h3 with ⟨hA,rfl⟩ | rfl | ⟨hA,rfl,hA2⟩
  all_goals
    clear hk
    cases gf
    all_goals
      simp only [Option.map_none,Option.map_some] at c8 HC
      go_enter Tryz.func49,Tryz.ntmps49
      go_wp2
      go_still_tail 10,(by kernel_rfl)
      go_wp2_with fail
      refine (HC.out _ _ (heap_alloc_new w.drew _) (((Below.refl _ w).drew).alloc (Nat.le_refl _) _)).mono ?_
      rintro e w' ⟨b,c,rfl,ho,hb⟩
      unfold sl
      go_wp2
      go_ret
      exact ⟨b,c,rfl,ho,hb⟩
theorem take_min (l:List UInt8) (keep:Int):∃ kk:Nat,min (max keep 0) (l.length:Int)=kk∧l.take kk=l.take keep.toNat:=by
  refine ⟨(min (max keep 0) (l.length:Int)).toNat,by omega,?_⟩
  rcases Int.lt_or_le (l.length:Int) keep with h | h
  · rw [show (min (max keep 0) (l.length:Int)).toNat=l.length from by omega,List.take_of_length_le (Nat.le_refl _),List.take_of_length_le (by omega)]
  · rw [show (min (max keep 0) (l.length:Int)).toNat=keep.toNat from by omega]
theorem disk_go (K:Nat) (kp me pa:Int) (d:List UInt8) (m:Mm) (arm:Int) (lost:List UInt8) (ag:Nat) (hs:Nat→Int) (gd:Option Nat) (cd:Nat) (gl:Option Nat) (cl:Nat) (gf:Option Nat) (cf:Nat) (w:World) (h:PK w K kp me pa d m arm lost ag hs gd cd gl cl gf cf) (hn:d.length+lost.length≤9900000) (keep:Int) :
    Calls Tryz.prog 28 #[.pointer (some ⟨K,0,none⟩),.int .i64 keep] w fun e w'=>∃ g c,e=.returned (sl g (d++lost.take keep.toNat).length c)∧OwnBytes w w' g c (d++lost.take keep.toNat)∧Below w.heap.size w w':=by
  obtain ⟨kk,hk,hkt⟩:=take_min lost keep
  have HB:=hid (bytes_at K kp me pa d m arm lost ag hs gd cd gl cl gf cf w h hn keep kk hk)
  rw [hkt] at HB
  clear h hk hkt
  generalize d++lost.take keep.toNat=ll at *
  go_enter Tryz.func28,Tryz.ntmps28
  go_wp2_with fail
  refine HB.out.mono ?_
  rintro e w' ⟨b,c,rfl,ho,hb⟩
  unfold sl
  go_wp2
  go_ret
  exact ⟨b,c,rfl,ho,hb⟩
theorem diskSaid_:DiskSaid KIs_:=fun w K F s keep h hok=>by
  obtain ⟨gd,cd,gl,cl,gf,cf,h1,_⟩:=h
  exact disk_go K _ _ _ _ _ _ _ _ _ gd cd gl cl gf cf w h1 hok.1 keep
theorem openSaid_:OpenSaid KIs_:=fun kp me pa s g0 cap w hb hn hcap=>by
  by_cases hc:ConfOk kp me pa
  · have RC:Hid (∀ z,Calls Tryz.prog 45 #[.agg #[.int .i64 kp,.int .i64 me,.int .i64 pa]] z fun e w'=>e=.returned (.bool true)∧Below z.heap.size z w'):=fun z=>rightConfig_yes kp me pa z hc
    have OD:Hid (∀ z,Below w.heap.size w z→Calls Tryz.prog 46 #[.slice (some ⟨g0,0,none⟩) s.length cap] z (OpenedD z s)):=fun z hz=>openD_go g0 0 s.length cap s z (hb.below hz) rfl hn hcap
    have HC:=hid hc
    clear hb hc
    go_enter Tryz.func25,Tryz.ntmps25
    go_wp2_with fail
    refine (RC.out _).mono ?_
    rintro e X1 ⟨rfl,hb1⟩
    rw [World.size_alloc] at hb1
    have HX1:Hid (Below w.heap.size w X1):=((Below.refl _ w).alloc (Nat.le_refl _) _).trans (hb1.mono (by omega))
    have HCB:Hid (MBox w.heap.size 63 (.int .i64 kp) (.int .i64 me) (.int .i64 pa) X1):=by
      show _=_
      rw [hb1.block _ (by omega)];exact heap_alloc_new w _
    clear hb1
    obtain ⟨q0,q1,q2,fq⟩:=mbox_cells HCB.out
    have Q0:=hid q0
    have Q1:=hid q1
    have Q2:=hid q2
    clear fq q0 q1 q2
    go_wp2
    have hS0:(fun z:World=>Below X1.heap.size X1 z∧z.cell? ⟨w.heap.size,0,none⟩=some (.int .i64 kp)∧z.cell? ⟨w.heap.size,1,none⟩=some (.int .i64 me)∧z.cell? ⟨w.heap.size,2,none⟩=some (.int .i64 pa)) X1.drew:=⟨(Below.refl _ _).drew,Q0.out,Q1.out,Q2.out⟩
    refine wp_region_held_drew (S:=fun z:World=>Below X1.heap.size X1 z∧z.cell? ⟨w.heap.size,0,none⟩=some (.int .i64 kp)∧z.cell? ⟨w.heap.size,1,none⟩=some (.int .i64 me)∧z.cell? ⟨w.heap.size,2,none⟩=some (.int .i64 pa)) (by kernel_rfl) hS0 (fun hS=>?_)
    clear hS0
    refine tH 1 hS ?_
    try simp only [lA,lB,lC,Act.put,lD,lE,lF]
    refine tH 0 hS ?_ (hy:=by (intro w hw;obtain ⟨_,s0,s1,s2⟩:=hw;go_simp;try with_reducible rfl))
    try simp only [lA,lB,lC,Act.put,lD,lE,lF]
    refine wpAnyH_ready (rs:=[2]) (by kernel_rfl) (by simp) ?_
    refine AllReadyH.cons rfl (fun K hK=>?_) AllReadyH.nil
    go_simp
    refine (OD.out _ (HX1.out.trans (hS.1.mono HX1.out.size))).mono ?_
    rintro e X2 ⟨gd,cd,gl,cl,rfl,hd1,hd2,hd3,hol,hbf⟩
    have hb12:=hS.1.trans (hbf.mono hS.1.size)
    have H12:=hid hb12
    have HD1:=hid hd1
    have HD2:=hid hd2
    have HD3:Hid (∀ k,gd=some k→w.heap.size≤k):=fun k e=>Nat.le_trans HX1.out.size (Nat.le_trans hS.1.size (hd3 k e))
    have HOL:=hid (hol.base (u:=w) (Nat.le_trans HX1.out.size hS.1.size))
    have HX2:=hid (HX1.out.trans (hb12.mono HX1.out.size))
    clear hbf hd1 hd2 hd3 hol
    refine hK.out _ _ ⟨hb12,(Below.cell hb12 (World.block_lt_of_cell? _ _ Q0.out)).trans Q0.out,(Below.cell hb12 (World.block_lt_of_cell? _ _ Q1.out)).trans Q1.out,(Below.cell hb12 (World.block_lt_of_cell? _ _ Q2.out)).trans Q2.out⟩ (fun hS=>?_)
    clear hK K hb12
    unfold sl
    refine tH 3 hS ?_
    try simp only [lA,lB,lC,Act.put,lD,lE,lF]
    refine wpAnyH_ready (rs:=[4]) (by kernel_rfl) (by simp) ?_
    refine AllReadyH.cons rfl (fun K hK=>?_) AllReadyH.nil
    go_simp
    refine hK.out _ _ ⟨H12.out.alloc H12.out.size _,cell_alloc_keep hS.2.1 _,cell_alloc_keep hS.2.2.1 _,cell_alloc_keep hS.2.2.2 _⟩ (fun hS=>?_)
    clear hK K
    refine tH 5 hS ?_
    try simp only [lA,lB,lC,Act.put,lD,lE,lF]
    refine tH 6 hS ?_
    try simp only [lA,lB,lC,Act.put,lD,lE,lF]
    refine wpAnyH_done (by kernel_rfl) ?_ _
    clear hS
    have hTL:(s.take (readD s).2).length=(readD s).2:=by rw [List.length_take];have:=readD_le s;omega
    have HXA:Hid (Below w.heap.size w (X2.alloc (.cells (progCells kp me pa gd (readD s).2 cd (readD s).1 gl cl 0 none 0 0 0 (fun _=>0)) 103))):=HX2.out.alloc HX2.out.size _
    have HFIN:Hid (Below w.heap.size w (X2.alloc (.cells (progCells kp me pa gd (readD s).2 cd (readD s).1 gl cl 0 none 0 0 0 (fun _=>0)) 103))∧KIs_ (X2.alloc (.cells (progCells kp me pa gd (readD s).2 cd (readD s).1 gl cl 0 none 0 0 0 (fun _=>0)) 103)) X2.heap.size (fun k=>k=X2.heap.size∨gd=some k∨gl=some k∨(none:Option Nat)=some k) (LK.opened kp me pa (s.take (readD s).2) (readD s).1)∧∀ k,(k=X2.heap.size∨gd=some k∨gl=some k∨(none:Option Nat)=some k)→w.heap.size≤k∧k < (X2.alloc (.cells (progCells kp me pa gd (readD s).2 cd (readD s).1 gl cl 0 none 0 0 0 (fun _=>0)) 103)).heap.size):=by
      refine ⟨HXA.out,⟨gd,cd,gl,cl,none,0,?_,fun k=>Iff.rfl⟩,fun k e=>?_⟩
      · have hdd:(LK.opened kp me pa (s.take (readD s).2) (readD s).1).dead=false:=rfl
        simp only [hdd,LK.mv,LK.av,Bool.false_eq_true,if_false]
        refine ⟨?_,HD1.out.touch ((Touch.refl (fun _=>False) X2).alloc _) (fun _ _ e=>e),?_,HOL.out.at_.alloc _,HOL.out.own.alloc _,fun j hj=>absurd hj (by simp [LK.opened]),.inl ⟨rfl,rfl,rfl⟩,⟨fun e=>?_,fun e=>?_,fun e=>(by cases e)⟩,⟨fun k e e2=>?_,fun k _ e=>(by cases e),fun k _ e=>(by cases e)⟩⟩
        · show _=some (Obj.cells (progCells kp me pa gd (s.take (readD s).2).length cd (readD s).1 gl cl 0 none 0 0 0 (fun _=>0)) _ _)
          rw [hTL];exact heap_alloc_new X2 _
        · show OwnRow _ _ _ _ (s.take (readD s).2).length _
          rw [hTL];exact HD2.out.alloc _
        · have:=HD2.out.lt e;omega
        · have:=HOL.out.own.lt e;omega
        · rcases HD2.out with ⟨h,_⟩ | ⟨g1,cur1,h,hh,_⟩
          · rw [h] at e;cases e
          · rcases HOL.out.own with ⟨h',_⟩ | ⟨g2,cur2,h',hh2,_⟩
            · rw [h'] at e2;cases e2
            · rw [e] at h;rw [e2] at h';cases h;cases h'
              rw [hh] at hh2
              simp at hh2
      · have hsz:=World.size_alloc X2 (.cells (progCells kp me pa gd (readD s).2 cd (readD s).1 gl cl 0 none 0 0 0 (fun _=>0)) 103)
        have hw2:=HX2.out.size
        rcases e with e | e | e | e
        · omega
        · have:=HD2.out.lt e;have:=HD3.out k e;omega
        · have:=HOL.out.own.lt e;have:=HOL.out.new k e;omega
        · cases e
    unfold progCells sl at HFIN
    clear HXA HOL HD1 HD2 HD3 hTL
    go_wp2
    go_ret2
    exact ⟨HFIN.out.1,.inr ⟨HC.out,X2.heap.size,rfl,_,HFIN.out.2.1,HFIN.out.2.2⟩⟩
  · have RC:Hid (∀ z,Calls Tryz.prog 45 #[.agg #[.int .i64 kp,.int .i64 me,.int .i64 pa]] z fun e w'=>e=.returned (.bool false)∧Below z.heap.size z w'):=fun z=>rightConfig_no kp me pa z hc
    have HC:=hid hc
    clear hb hc
    go_enter Tryz.func25,Tryz.ntmps25
    go_wp2_with fail
    refine (RC.out _).mono ?_
    rintro e X1 ⟨rfl,hb1⟩
    rw [World.size_alloc] at hb1
    have HX1:Hid (Below w.heap.size w X1):=((Below.refl _ w).alloc (Nat.le_refl _) _).trans (hb1.mono (by omega))
    clear hb1
    go_wp2
    go_ret2
    exact ⟨HX1.out,.inl ⟨HC.out,rfl⟩⟩
end
end Go.Proofs.YtolififimldmlaaGreat
