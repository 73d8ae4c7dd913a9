import Derived.Test.YtolififimldmlaaGreatPart17
import Derived.Test.YtolififimldmlaaGreatPart01
import Derived.Test.YtolififimldmlaaGreatPart03
set_option linter.unusedVariables false
set_option linter.unusedSimpArgs false
set_option maxRecDepth 100000
set_option maxHeartbeats 16000000
namespace Go.Proofs.YtolififimldmlaaGreat
section
open Go.RowKit
attribute [local go_sem ↓] Go.wp_at_zero Go.wp_at_succ
def exLine:Ln:=⟨7,1,[97]⟩
def exSay:Fr:=⟨1,0,0,0,0,0,exLine,[]⟩
def exPrepare:Fr:=⟨2,0,0,1,0,0,exLine,[]⟩
def exHold:Fr:=⟨3,1,0,1,0,0,Ln.zero,[]⟩
def exChange:Fr:=⟨5,2,1,0,0,0,Ln.zero,[]⟩
def exSay2:Fr:=⟨1,0,0,0,0,0,⟨7,2,[]⟩,[]⟩
def exOp (k n:Int) (s:List UInt8) (f:Fr) (c1 c2 c3 a:Int):OpG:=⟨k,n,s,f,none,0,c1,c2,c3,a⟩
def exOps (say prepare hold change say2:List UInt8):List OpG :=
  [exOp 1 0 [] exSay 0 0 0 0,exOp 1 0 [] Fr.zero 0 0 0 0,exOp 2 0 say Fr.zero 0 0 0 0,exOp 2 0 say.tail Fr.zero 0 0 0 0,exOp 3 0 [] Fr.zero 3 0 5 0,exOp 3 0 [] Fr.zero 0 0 0 0,exOp 3 0 [] Fr.zero 3 1 2 0,exOp 4 0 [] Fr.zero 0 0 0 0,
   exOp 9 0 say Fr.zero 0 0 0 0,exOp 6 0 [] Fr.zero 0 0 0 0,exOp 9 0 hold Fr.zero 0 0 0 0,exOp 10 0 [] Fr.zero 0 0 0 0,exOp 5 0 [] Fr.zero 0 0 0 0,exOp 9 0 say Fr.zero 0 0 0 0,exOp 9 1 prepare Fr.zero 0 0 0 0,exOp 6 1 [] Fr.zero 0 0 0 0,
   exOp 7 1 [] Fr.zero 0 0 0 0,exOp 4 1 [] Fr.zero 0 0 0 0,exOp 10 1 [] Fr.zero 0 0 0 0,exOp 10 1 [] Fr.zero 0 0 0 0,exOp 9 1 change Fr.zero 0 0 0 0,exOp 4 1 [] Fr.zero 0 0 0 0,exOp 8 0 [] Fr.zero 0 0 0 1,exOp 9 0 say2 Fr.zero 0 0 0 0,
   exOp 6 0 [] Fr.zero 0 0 0 2,exOp 4 0 [] Fr.zero 0 0 0 0,exOp 7 0 [] Fr.zero 0 0 0 2,exOp 4 0 [] Fr.zero 0 0 0 0]
theorem exOps_lines (a b c d e:List UInt8):∀ o ∈ exOps a b c d e,o.f.lines=[]:=by
  unfold exOps
  simp [exOp,exSay,Fr.zero]
theorem exOps_small (a b c d e:List UInt8) (ha:a.length≤9000000) (hb:b.length≤9000000) (hc:c.length≤9000000) (hd:d.length≤9000000) (he:e.length≤9000000):∀ o ∈ exOps a b c d e,o.small:=by
  have ht:a.length≤9000000+1:=by omega
  unfold exOps OpG.small
  simp [exOp,exSay,Fr.zero,ha,hb,hc,hd,he,ht]
theorem exOps_len (a b c d e:List UInt8):(exOps a b c d e).length=28:=rfl
def opCells (ops:List OpG):List Value:=ops.flatMap fun o=>o.cells.toList
theorem opCells_at (ops:List OpG):∀ (j r:Nat) (hj:j < ops.length),r < 17→(opCells ops)[j * 17+r]?=ops[j].cells[r]?:=by
  induction ops with
  | nil=>intro j r hj;exact absurd hj (by simp)
  | cons a l ih =>
    intro j r hj hr
    unfold opCells at *
    rw [List.flatMap_cons]
    have hlen:a.cells.toList.length=17:=rfl
    cases j with
    | zero=>rw [List.getElem?_append_left (by omega),Nat.zero_mul,Nat.zero_add,Array.getElem?_toList];rfl
    | succ j =>
      rw [List.getElem?_append_right (by omega),hlen,show (j+1) * 17+r - 17=j * 17+r from by omega,ih j r (by simp at hj;omega) hr]
      simp
theorem opsAt_of {w:World} {g:Nat} {ops:List OpG} {fz:Nat × Nat} (hb:w.heap[g]?=some (.cells (opCells ops).toArray 76 fz)) (hl:∀ o ∈ ops,o.f.lines=[]):OpsAt w (some ⟨g,0,none⟩) ops:=fun j hj =>
  ⟨g,0,rfl,fun r hr=>by rw [Nat.zero_add,cell_of_heap hb,List.getElem?_toArray,opCells_at ops j r hj hr],by rw [hl _ (List.getElem_mem hj)];exact fun i hi=>absurd hi (by simp)⟩
theorem ex_below_cast {B:Nat} {a x x':World} (h:Below B a x) (e1:x'.heap=x.heap) (e2:x'.os=x.os) (e3:x'.tape=x.tape) (e4:x'.output=x.output):Below B a x' :=
  ⟨e2.trans h.os,e3.trans h.tape,e4.trans h.output,by rw [e1];exact h.size,fun k hk=>by rw [e1];exact h.block k hk⟩
theorem ex_below_on {a x x' y:World} (h:Below a.heap.size a x) (g:Below x'.heap.size x' y) (e1:x'.heap=x.heap) (e2:x'.os=x.os) (e3:x'.tape=x.tape) (e4:x'.output=x.output):Below a.heap.size a y :=
  (ex_below_cast h e1 e2 e3 e4).trans (g.mono (by rw [e1];exact h.size))
theorem cell_alloc_keep {w:World} {a:Addr} {v:Value} (h:w.cell? a=some v) (o:Obj):(w.alloc o).cell? a=some v:=(World.cell?_alloc_lt _ _ _ (World.block_lt_of_cell? _ _ h)).trans h
theorem frame_gen (k fr v p a l c t:Int) (s:List UInt8) (w:World) :
    Calls Tryz.prog 29 #[.agg #[.int .i64 k,.int .i64 fr,.int .i64 v,.int .i64 p,.int .i64 a,.int .i64 l,.int .i64 c,.int .i64 t,.string ⟨s.toArray⟩,.slice none 0 0]] w
      fun e w'=>e=.returned (.string ⟨(packS ⟨k,fr,v,p,a,l,⟨c,t,s⟩,[]⟩).toArray⟩)∧Below w.heap.size w w' :=
  frame_any ⟨k,fr,v,p,a,l,⟨c,t,s⟩,[]⟩ none 0 w (fun j hj=>absurd hj (by simp)) (by simp) (by simp)
def rowsOf (cs:List (Array Value)):Array Value:=(cs.flatMap (·.toList)).toArray
theorem run_bs28 (w:World) (c0 c1 c2 c3 c4 c5 c6 c7 c8 c9 c10 c11 c12 c13 c14 c15 c16 c17 c18 c19 c20 c21 c22 c23 c24 c25 c26 c27:Array Value) (h:∀ c ∈ [c0,c1,c2,c3,c4,c5,c6,c7,c8,c9,c10,c11,c12,c13,c14,c15,c16,c17,c18,c19,c20,c21,c22,c23,c24,c25,c26,c27],c.size=17) :
    (Instr.buildSlice 22 28 #[(0,.agg c0),(1,.agg c1),(2,.agg c2),(3,.agg c3),(4,.agg c4),(5,.agg c5),(6,.agg c6),(7,.agg c7),(8,.agg c8),(9,.agg c9),(10,.agg c10),(11,.agg c11),(12,.agg c12),(13,.agg c13),(14,.agg c14),(15,.agg c15),(16,.agg c16),(17,.agg c17),(18,.agg c18),(19,.agg c19),(20,.agg c20),(21,.agg c21),(22,.agg c22),(23,.agg c23),(24,.agg c24),(25,.agg c25),(26,.agg c26),(27,.agg c27)]).run Tryz.prog w=.ok (.slice (some ⟨w.heap.size,0,none⟩) 28 28) (w.alloc (.cells (rowsOf [c0,c1,c2,c3,c4,c5,c6,c7,c8,c9,c10,c11,c12,c13,c14,c15,c16,c17,c18,c19,c20,c21,c22,c23,c24,c25,c26,c27]) 76)):=by
  have hi:(Tryz.prog.info? 76).map (fun i=>(i.zero.isSome,i.size))=some (true,17):=by kernel_rfl
  cases hie:Tryz.prog.info? 76 with
  | none=>rw [hie] at hi;cases hi
  | some ie =>
    rw [hie,Option.map_some,Option.some.injEq,Prod.mk.injEq] at hi
    obtain ⟨hz,hs⟩:=hi
    obtain ⟨z,hz⟩:=Option.isSome_iff_exists.1 hz
    refine run_buildSlice w _ _ 28 _ (rowsOf [c0,c1,c2,c3,c4,c5,c6,c7,c8,c9,c10,c11,c12,c13,c14,c15,c16,c17,c18,c19,c20,c21,c22,c23,c24,c25,c26,c27]) ie z (by kernel_rfl) hie hz (by omega) (by omega) ?_
    rw [hs]
    have hl:((Array.range (28 * 17)).map (z.cells[· % z.cells.size]!))=(([]:List Value)++((Array.range (28 * 17)).map (z.cells[· % z.cells.size]!)).toList).toArray:=by rw [List.nil_append,Array.toArray_toList]
    rw [hl]
    exact fill_rows 17 [c0,c1,c2,c3,c4,c5,c6,c7,c8,c9,c10,c11,c12,c13,c14,c15,c16,c17,c18,c19,c20,c21,c22,c23,c24,c25,c26,c27] 0 [] _ (by simp) (by simp) h
attribute [-go_sem] Instr.buildSlice
attribute [local go_sem] run_bs28
theorem example_any (least last:Int) (lead:Bool) (w:World)
    (HPL:∀ (x:World) (g:Nat),OpsAt x (some ⟨g,0,none⟩) (exOps (packS exSay) (packS exPrepare) (packS exHold) (packS exChange) (packS exSay2))→Calls Tryz.prog 13 #[.slice (some ⟨g,0,none⟩) 28 28,.int .i64 least,.int .i64 last,.bool lead] x fun e y=>e=.returned (.int .i64 (-1))∧Below x.heap.size x y) :
    Calls Tryz.prog 12 #[.int .i64 least,.int .i64 last,.bool lead] w fun e y=>e=.returned (.bool true)∧Below w.heap.size w y:=by
  have HP:=hid HPL
  clear HPL
  have hs1:1≤(packS exSay).length:=by decide +kernel
  go_enter Tryz.func12,Tryz.ntmps12
  go_wp2_with fail
  refine (frame_gen 1 0 0 0 0 0 7 1 [97] _).mono ?_
  rintro e w1 ⟨rfl,hb1⟩
  have HW1:Hid (Below w.heap.size w w1):=((Below.refl _ w).alloc (Nat.le_refl _) _).trans (hb1.mono (by simp))
  have hz1:w.heap.size < w1.heap.size:=by have:=hb1.size;simp at this;omega
  obtain ⟨q1,q2⟩:=bcell hb1
  clear hb1 q2
  have c0:w1.cell? ⟨w.heap.size,0,none⟩=some (.int .i64 7):=by rw [q1 _ _ (by simp)];exact World.cell?_alloc_new _ _ _ _
  have c1:w1.cell? ⟨w.heap.size,1,none⟩=some (.int .i64 1):=by rw [q1 _ _ (by simp)];exact World.cell?_alloc_new _ _ _ _
  have c2:w1.cell? ⟨w.heap.size,2,none⟩=some (.string ⟨#[97]⟩):=by rw [q1 _ _ (by simp)];exact World.cell?_alloc_new _ _ _ _
  clear q1
  change _ at hs1
  have hsay:Hid (packS ⟨1,0,0,0,0,0,⟨7,1,[97]⟩,[]⟩=packS exSay):=rfl
  rw [hsay.out]
  generalize packS exSay=sb at *
  go_wp2_with fail
  refine (frame_gen 2 0 0 1 0 0 7 1 [97] _).mono ?_
  rintro e w2 ⟨rfl,hb2⟩
  have hprep:Hid (packS ⟨2,0,0,1,0,0,⟨7,1,[97]⟩,[]⟩=packS exPrepare):=rfl
  rw [hprep.out]
  generalize packS exPrepare=pb at *
  have HW2:=hid (HW1.out.trans (hb2.mono HW1.out.size))
  have d0:w2.cell? ⟨w.heap.size,0,none⟩=some (.int .i64 7):=(hb2.cell (p:=⟨w.heap.size,0,none⟩) hz1).trans c0
  have d1:w2.cell? ⟨w.heap.size,1,none⟩=some (.int .i64 1):=(hb2.cell (p:=⟨w.heap.size,1,none⟩) hz1).trans c1
  have d2:w2.cell? ⟨w.heap.size,2,none⟩=some (.string ⟨#[97]⟩):=(hb2.cell (p:=⟨w.heap.size,2,none⟩) hz1).trans c2
  have hz2:w.heap.size < w2.heap.size:=by have:=hb2.size;omega
  clear hb2 c0 c1 c2
  go_wp2
  obtain ⟨X,hX⟩:∃ X,X=(w2.alloc (.cells #[.int .i64 3,.int .i64 0,.int .i64 5] 63)).alloc (.cells #[.int .i64 3,.int .i64 1,.int .i64 2] 63):=⟨_,rfl⟩
  have HX:Hid (Below w.heap.size w X):=by show Below _ _ _;rw [hX];exact (HW2.out.alloc (by omega) _).alloc (by rw [World.size_alloc];omega) _
  have x0:X.cell? ⟨w.heap.size,0,none⟩=some (.int .i64 7):=by rw [hX,World.cell?_alloc_past _ _ _ (by rw [World.size_alloc];omega),World.cell?_alloc_past _ _ _ hz2];exact d0
  have x1:X.cell? ⟨w.heap.size,1,none⟩=some (.int .i64 1):=by rw [hX,World.cell?_alloc_past _ _ _ (by rw [World.size_alloc];omega),World.cell?_alloc_past _ _ _ hz2];exact d1
  have x2:X.cell? ⟨w.heap.size,2,none⟩=some (.string ⟨#[97]⟩):=by rw [hX,World.cell?_alloc_past _ _ _ (by rw [World.size_alloc];omega),World.cell?_alloc_past _ _ _ hz2];exact d2
  have yy:∀ j,X.cell? ⟨w2.heap.size,j,none⟩=(#[Value.int .i64 3,.int .i64 0,.int .i64 5]:Array Value)[j]?:=fun j=>by rw [hX,World.cell?_alloc_past _ _ _ (by rw [World.size_alloc];omega)];exact World.cell?_alloc_new _ _ _ _
  have y0:X.cell? ⟨w2.heap.size,0,none⟩=some (.int .i64 3):=yy 0
  have y1:X.cell? ⟨w2.heap.size,1,none⟩=some (.int .i64 0):=yy 1
  have y2:X.cell? ⟨w2.heap.size,2,none⟩=some (.int .i64 5):=yy 2
  have zz:∀ j,X.cell? ⟨w2.heap.size+1,j,none⟩=(#[Value.int .i64 3,.int .i64 1,.int .i64 2]:Array Value)[j]?:=fun j=>by rw [hX,World.cell?_alloc_at _ _ _ _ (by rw [World.size_alloc])]
  have z0:X.cell? ⟨w2.heap.size+1,0,none⟩=some (.int .i64 3):=zz 0
  have z1:X.cell? ⟨w2.heap.size+1,1,none⟩=some (.int .i64 1):=zz 1
  have z2:X.cell? ⟨w2.heap.size+1,2,none⟩=some (.int .i64 2):=zz 2
  rw [← hX]
  clear hX yy zz d0 d1 d2 HW2 HW1
  have b1:(1:Int)≤(sb.length:Int):=by omega
  generalize w2.heap.size=B2 at *
  have hx1:(⟨sb.toArray⟩:ByteArray).extract 1 sb.length=⟨(sb.drop 1).toArray⟩:=by rw [extr,List.take_of_length_le (by rw [List.length_drop];omega)]
  clear hz1 hz2 hs1 hsay hprep
  go_region_held (fun x=>x.cell? ⟨w.heap.size,0,none⟩=some (.int .i64 7)∧x.cell? ⟨w.heap.size,1,none⟩=some (.int .i64 1)∧x.cell? ⟨w.heap.size,2,none⟩=some (.string ⟨#[97]⟩)∧x.cell? ⟨B2,0,none⟩=some (.int .i64 3)∧x.cell? ⟨B2,1,none⟩=some (.int .i64 0)∧x.cell? ⟨B2,2,none⟩=some (.int .i64 5) ∧
    x.cell? ⟨B2+1,0,none⟩=some (.int .i64 3)∧x.cell? ⟨B2+1,1,none⟩=some (.int .i64 1)∧x.cell? ⟨B2+1,2,none⟩=some (.int .i64 2)) (first | go_keep | (go_split_ands;refine ⟨?_,?_,?_,?_,?_,?_,?_,?_,?_⟩ <;> (refine (hbf.cell (World.block_lt_of_cell? _ _ (by assumption))).trans ?_;assumption)) | (go_split_ands;refine ⟨?_,?_,?_,?_,?_,?_,?_,?_,?_⟩ <;> (refine cell_alloc_keep ?_ _;assumption)))
    (first | (go_at_call 29;refine (frame_gen _ _ _ _ _ _ _ _ _ _).mono ?_;rintro e wf ⟨rfl,hbf⟩;have HX:=hid (ex_below_on HX.out hbf rfl rfl rfl rfl)))
  rename_i hh
  clear hh
  generalize hY:World.alloc wf _=Y
  have hops:Hid (OpsAt Y (some ⟨wf.heap.size,0,none⟩) (exOps sb pb (packS exHold) (packS exChange) (packS exSay2))):=by
    rw [← hY]
    exact opsAt_of (heap_alloc_new wf _) (exOps_lines _ _ _ _ _)
  have HY:Hid (Below w.heap.size w Y):=by rw [← hY];exact HX.out.alloc HX.out.size _
  clear hY
  go_wp2_with fail
  refine (HP.out _ _ hops.out).mono ?_
  rintro e y ⟨rfl,hb⟩
  go_wp2
  go_ret
  exact ⟨rfl,HY.out.trans (hb.mono HY.out.size)⟩
end
section
open Go.RowKit Go.Deep
section
variable {X:Type} {enc:TypeId × Value→X} {w:World}
theorem len10 {α:Type} {l:List α} (h:l.length=10):∃ a0 a1 a2 a3 a4 a5 a6 a7 a8 a9,l=[a0,a1,a2,a3,a4,a5,a6,a7,a8,a9]:=by
  match l,h with
  | [a0,a1,a2,a3,a4,a5,a6,a7,a8,a9],_=>exact ⟨a0,a1,a2,a3,a4,a5,a6,a7,a8,a9,rfl⟩
theorem len17 {α:Type} {l:List α} (h:l.length=17):∃ a0 a1 a2 a3 a4 a5 a6 a7 a8 a9 b0 b1 b2 b3 b4 b5 b6,l=[a0,a1,a2,a3,a4,a5,a6,a7,a8,a9,b0,b1,b2,b3,b4,b5,b6]:=by
  match l,h with
  | [a0,a1,a2,a3,a4,a5,a6,a7,a8,a9,b0,b1,b2,b3,b4,b5,b6],_=>exact ⟨a0,a1,a2,a3,a4,a5,a6,a7,a8,a9,b0,b1,b2,b3,b4,b5,b6,rfl⟩
def Fr.cells (f:Fr) (a:Option Addr) (c:Nat):List Value :=
  [.int .i64 f.kind,.int .i64 f.frm,.int .i64 f.view,.int .i64 f.place,.int .i64 f.agreed,.int .i64 f.last,.int .i64 f.line.c,.int .i64 f.line.t,.string ⟨f.line.s.toArray⟩,sla a f.lines.length c]
theorem frame_open {fuel:Nat} {cs:List Value} {x:DataW X × List MemPlace} (h:DataW.trod enc Tryz.prog w 0 (fun _=>true) true fuel 30 cs=some x) :
    ∃ (f:Fr) (a:Option Addr) (c:Nat),cs=f.cells a c∧f.lines.length≤c∧LinesAt w a f.lines∧f.lines.length≤Rows.uptoBulk x.1:=by
  obtain ⟨xs,n,_,ex,hl,hx,hf⟩:=DataW.trod_struct Tryz.underlying30 h
  rw [cellsFrame] at hl
  have hx8:xs.length=8:=hx
  have h0:DataW.trod enc Tryz.prog w 0 (fun _=>true) true n 3 ((cs.drop 0).take (Tryz.prog.cellsOf 3))=xs[0]?:=hf 0 _ rfl
  have h1:DataW.trod enc Tryz.prog w 0 (fun _=>true) true n 3 ((cs.drop 1).take (Tryz.prog.cellsOf 3))=xs[1]?:=hf 1 _ rfl
  have h2:DataW.trod enc Tryz.prog w 0 (fun _=>true) true n 3 ((cs.drop 2).take (Tryz.prog.cellsOf 3))=xs[2]?:=hf 2 _ rfl
  have h3:DataW.trod enc Tryz.prog w 0 (fun _=>true) true n 3 ((cs.drop 3).take (Tryz.prog.cellsOf 3))=xs[3]?:=hf 3 _ rfl
  have h4:DataW.trod enc Tryz.prog w 0 (fun _=>true) true n 3 ((cs.drop 4).take (Tryz.prog.cellsOf 3))=xs[4]?:=hf 4 _ rfl
  have h5:DataW.trod enc Tryz.prog w 0 (fun _=>true) true n 3 ((cs.drop 5).take (Tryz.prog.cellsOf 3))=xs[5]?:=hf 5 _ rfl
  have h6:DataW.trod enc Tryz.prog w 0 (fun _=>true) true n 27 ((cs.drop 6).take (Tryz.prog.cellsOf 27))=xs[6]?:=hf 6 _ rfl
  have h7:DataW.trod enc Tryz.prog w 0 (fun _=>true) true n 28 ((cs.drop 9).take (Tryz.prog.cellsOf 28))=xs[7]?:=hf 7 _ rfl
  clear hf hx h
  obtain ⟨y6,e6⟩:=some_at hx8 6 (by omega)
  obtain ⟨y7,e7⟩:=some_at hx8 7 (by omega)
  rw [e6,cellsLine] at h6
  rw [e7,cellsSl] at h7
  obtain ⟨y0,e0⟩:=some_at hx8 0 (by omega)
  rw [e0,cellsInt] at h0
  obtain ⟨y1,e1⟩:=some_at hx8 1 (by omega)
  rw [e1,cellsInt] at h1
  obtain ⟨y2,e2⟩:=some_at hx8 2 (by omega)
  rw [e2,cellsInt] at h2
  obtain ⟨y3,e3⟩:=some_at hx8 3 (by omega)
  rw [e3,cellsInt] at h3
  obtain ⟨y4,e4⟩:=some_at hx8 4 (by omega)
  rw [e4,cellsInt] at h4
  obtain ⟨y5,e5⟩:=some_at hx8 5 (by omega)
  rw [e5,cellsInt] at h5
  obtain ⟨a0,a1,a2,a3,a4,a5,a6,a7,a8,a9,rfl⟩:=len10 hl
  obtain ⟨n0,q0,_⟩:=DataW.trod_int Tryz.underlying3 h0
  obtain ⟨n1,q1,_⟩:=DataW.trod_int Tryz.underlying3 h1
  obtain ⟨n2,q2,_⟩:=DataW.trod_int Tryz.underlying3 h2
  obtain ⟨n3,q3,_⟩:=DataW.trod_int Tryz.underlying3 h3
  obtain ⟨n4,q4,_⟩:=DataW.trod_int Tryz.underlying3 h4
  obtain ⟨n5,q5,_⟩:=DataW.trod_int Tryz.underlying3 h5
  obtain ⟨l,el⟩:=line_open h6
  obtain ⟨a,c,ls,ev,hc,hla,hb⟩:=lines_open h7
  cases el
  subst ev
  refine ⟨⟨n0,n1,n2,n3,n4,n5,l,ls⟩,a,c,?_,hc,hla,?_⟩
  · simp only [Fr.cells]
    cases q0;cases q1;cases q2;cases q3;cases q4;cases q5
    rfl
  · have hm:y7.1 ∈ xs.map (·.1):=List.mem_map.2 ⟨y7,List.mem_of_getElem? e7,rfl⟩
    have:=bulk_agg_part hm
    rw [ex];dsimp only;omega
theorem config_open {fuel:Nat} {cs:List Value} {x:DataW X × List MemPlace} (h:DataW.trod enc Tryz.prog w 0 (fun _=>true) true fuel 63 cs=some x):∃ c1 c2 c3:Int,cs=[.int .i64 c1,.int .i64 c2,.int .i64 c3]:=by
  obtain ⟨xs,n,_,_,hl,hx,hf⟩:=DataW.trod_struct Tryz.underlying63 h
  rw [cellsConfig] at hl
  have hx3:xs.length=3:=hx
  have h0:DataW.trod enc Tryz.prog w 0 (fun _=>true) true n 3 ((cs.drop 0).take (Tryz.prog.cellsOf 3))=xs[0]?:=hf 0 _ rfl
  have h1:DataW.trod enc Tryz.prog w 0 (fun _=>true) true n 3 ((cs.drop 1).take (Tryz.prog.cellsOf 3))=xs[1]?:=hf 1 _ rfl
  have h2:DataW.trod enc Tryz.prog w 0 (fun _=>true) true n 3 ((cs.drop 2).take (Tryz.prog.cellsOf 3))=xs[2]?:=hf 2 _ rfl
  clear hf hx h
  obtain ⟨y0,e0⟩:=some_at hx3 0 (by omega)
  obtain ⟨y1,e1⟩:=some_at hx3 1 (by omega)
  obtain ⟨y2,e2⟩:=some_at hx3 2 (by omega)
  rw [e0,cellsInt] at h0
  rw [e1,cellsInt] at h1
  rw [e2,cellsInt] at h2
  obtain ⟨a,b,c,rfl⟩:=len3 hl
  obtain ⟨c0,e3,_⟩:=DataW.trod_int Tryz.underlying3 h0
  obtain ⟨t0,e4,_⟩:=DataW.trod_int Tryz.underlying3 h1
  obtain ⟨s0,e5,_⟩:=DataW.trod_int Tryz.underlying3 h2
  cases e3;cases e4;cases e5
  exact ⟨_,_,_,rfl⟩
theorem int_wf {n:Int} (h:(Lit.int .i64 n).wf=true):-9223372036854775808≤n∧n≤9223372036854775807:=by
  unfold Lit.wf at h
  rw [Bool.and_eq_true] at h
  have e1:IntKind.i64.min=-9223372036854775808:=by decide
  have e2:IntKind.i64.max=9223372036854775807:=by decide
  have h1:=of_decide_eq_true h.1
  have h2:=of_decide_eq_true h.2
  omega
theorem op_open {fuel:Nat} {cs:List Value} {x:DataW X × List MemPlace} (h:DataW.trod enc Tryz.prog w 0 (fun _=>true) true fuel 76 cs=some x) :
    ∃ o:OpG,cs=o.cells.toList∧LinesAt w o.fa o.f.lines∧o.f.lines.length≤o.fc∧o.f.lines.length≤Rows.uptoBulk x.1∧o.s.length≤Rows.uptoBulk x.1∧o.ranged:=by
  obtain ⟨xs,n,_,ex,hl,hx,hf⟩:=DataW.trod_struct Tryz.underlying76 h
  rw [cellsOp] at hl
  have hx6:xs.length=6:=hx
  have h0:DataW.trod enc Tryz.prog w 0 (fun _=>true) true n 3 ((cs.drop 0).take (Tryz.prog.cellsOf 3))=xs[0]?:=hf 0 _ rfl
  have h1:DataW.trod enc Tryz.prog w 0 (fun _=>true) true n 3 ((cs.drop 1).take (Tryz.prog.cellsOf 3))=xs[1]?:=hf 1 _ rfl
  have h2:DataW.trod enc Tryz.prog w 0 (fun _=>true) true n 9 ((cs.drop 2).take (Tryz.prog.cellsOf 9))=xs[2]?:=hf 2 _ rfl
  have h3:DataW.trod enc Tryz.prog w 0 (fun _=>true) true n 30 ((cs.drop 3).take (Tryz.prog.cellsOf 30))=xs[3]?:=hf 3 _ rfl
  have h4:DataW.trod enc Tryz.prog w 0 (fun _=>true) true n 63 ((cs.drop 13).take (Tryz.prog.cellsOf 63))=xs[4]?:=hf 4 _ rfl
  have h5:DataW.trod enc Tryz.prog w 0 (fun _=>true) true n 3 ((cs.drop 16).take (Tryz.prog.cellsOf 3))=xs[5]?:=hf 5 _ rfl
  clear hf hx h
  obtain ⟨y0,e0⟩:=some_at hx6 0 (by omega)
  obtain ⟨y1,e1⟩:=some_at hx6 1 (by omega)
  obtain ⟨y2,e2⟩:=some_at hx6 2 (by omega)
  obtain ⟨y3,e3⟩:=some_at hx6 3 (by omega)
  obtain ⟨y4,e4⟩:=some_at hx6 4 (by omega)
  obtain ⟨y5,e5⟩:=some_at hx6 5 (by omega)
  rw [e0,cellsInt] at h0
  rw [e1,cellsInt] at h1
  rw [e2,cellsStr] at h2
  rw [e3,cellsFrame] at h3
  rw [e4,cellsConfig] at h4
  rw [e5,cellsInt] at h5
  obtain ⟨a0,a1,a2,a3,a4,a5,a6,a7,a8,a9,b0,b1,b2,b3,b4,b5,b6,rfl⟩:=len17 hl
  obtain ⟨k0,q0,_⟩:=DataW.trod_int Tryz.underlying3 h0
  obtain ⟨k1,q1,_,wf1⟩:=DataW.trod_int Tryz.underlying3 h1
  obtain ⟨s0,q2,r2,_⟩:=DataW.trod_string Tryz.underlying9 h2
  obtain ⟨f,a,c,q3,hc,hla,hb⟩:=frame_open h3
  obtain ⟨c1,c2,c3,q4⟩:=config_open h4
  obtain ⟨k5,q5,_,wf5⟩:=DataW.trod_int Tryz.underlying3 h5
  have m2:y2.1 ∈ xs.map (·.1):=List.mem_map.2 ⟨y2,List.mem_of_getElem? e2,rfl⟩
  have m3:y3.1 ∈ xs.map (·.1):=List.mem_map.2 ⟨y3,List.mem_of_getElem? e3,rfl⟩
  have g2:=bulk_agg_part m2
  have g3:=bulk_agg_part m3
  refine ⟨⟨k0,k1,s0.data.toList,f,a,c,c1,c2,c3,k5⟩,?_,hla,hc,?_,?_,int_wf wf1,(int_wf wf5).2⟩
  · simp only [Fr.cells] at q3
    cases q0;cases q1;cases q2;cases q3;cases q4;cases q5
    rfl
  · rw [ex];dsimp only;omega
  · rw [ex];dsimp only
    rw [r2] at g2
    simp only [Rows.uptoBulk] at g2
    simp only [Rows.uptoBulk]
    omega
theorem ops_open {fuel:Nat} {v:Value} {x:DataW X × List MemPlace} (h:DataW.trod enc Tryz.prog w 0 (fun _=>true) true fuel 22 [v]=some x) (hb:Rows.uptoBulk x.1≤1048576) :
    ∃ (a:Option Addr) (c:Nat) (ops:List OpG),v=sla a ops.length c∧OpsAt w a ops∧(∀ o ∈ ops,o.small∧o.ranged)∧ops.length≤1048576:=by
  rcases open_slice Tryz.underlying22 h with ⟨e,rfl⟩ | ⟨a,len,cap,m,n,D,Pl,e,_,hlc,_,hm,rfl,hi⟩
  · cases e
    exact ⟨none,0,[],rfl,fun j hj=>absurd hj (by simp),fun o ho=>(by cases ho),by simp⟩
  · cases e
    simp only [if_true] at hm
    rw [cellsOp] at hi
    have hex:∀ i,i < len→∃ o:OpG,(∀ r,r < 17→w.cell? (a.add (i * 17+r))=o.cells[r]?)∧LinesAt w o.fa o.f.lines∧(o.small∧o.ranged):=fun i hil=>by
      obtain ⟨cs,hc,ht⟩:=hi i (by omega)
      obtain ⟨o,rfl,hl,h1,h2,h3,h4⟩:=op_open ht
      obtain ⟨_,_,hcell⟩:=World.cells?_some hc
      have hd:D i ∈ (List.range len).map D:=List.mem_map.2 ⟨i,List.mem_range.2 hil,rfl⟩
      have:=bulk_slice_part (r:=(List.range (m - len)).map fun j=>D (len+j)) hd
      dsimp only at h2 h3 hb
      refine ⟨o,fun r hr=>?_,hl,⟨?_,?_,h1⟩,h4⟩
      · rw [← add_add,hcell r hr,Array.getElem?_toList]
      · omega
      · omega
    have hin:Inhabited OpG:=⟨⟨0,0,[],Fr.zero,none,0,0,0,0,0⟩⟩
    obtain ⟨L,hL⟩:=choose_lt hex
    have hbl:=bulk_slice ((List.range len).map D) ((List.range (m - len)).map fun j=>D (len+j))
    dsimp only at hb
    refine ⟨some a,cap,(List.range len).map L,by simp [sla],fun j hj=>?_,fun o ho=>?_,?_⟩
    · have hj':j < len:=by simpa using hj
      obtain ⟨q,hl,_⟩:=hL j hj'
      have q0:=(hL 0 (by omega)).1 0 (by omega)
      have ea:=addr_of_cell (v:=.int .i64 (L 0).kind) q0
      clear q0
      generalize a.block=bb at ea
      generalize a.off=oo at ea
      subst ea
      refine ⟨bb,oo,rfl,fun r hr=>?_,by simpa using hl⟩
      have:=q r hr
      rw [addr_add0] at this
      simp only [List.getElem_map,List.getElem_range]
      rw [Nat.add_assoc];exact this
    · obtain ⟨i,hi',rfl⟩:=List.mem_map.1 ho
      exact (hL i (List.mem_range.1 hi')).2.2
    · simp at hbl ⊢;omega
end
end
end Go.Proofs.YtolififimldmlaaGreat
