import Derived.Great.BuildSlice
import Derived.Test.YtolififimldmlaaGreatPart01
import Derived.Test.YtolififimldmlaaGreatPart15
set_option linter.unusedVariables false
set_option linter.unusedSimpArgs false
set_option maxRecDepth 100000
set_option maxHeartbeats 16000000
namespace Go.Proofs.YtolififimldmlaaGreat
section
theorem fold_set (l:List Value):∀ (off j:Nat) (pre rest:List Value),pre.length=off+j→l.length≤rest.length →
    (l.zipIdx j).foldl (fun (cs:Array Value) p=>cs.setIfInBounds (off+p.2) p.1) (pre++rest).toArray=(pre++l++rest.drop l.length).toArray:=by
  induction l with
  | nil=>intro off j pre rest _ _;simp
  | cons a l ih =>
    intro off j pre rest h1 h2
    cases rest with
    | nil=>simp at h2
    | cons r rest =>
      rw [List.zipIdx_cons,List.foldl_cons]
      have e:(pre++r :: rest).toArray.setIfInBounds (off+j) a=((pre++[a])++rest).toArray:=by
        rw [List.setIfInBounds_toArray,← h1,List.set_append_right _ _ (Nat.le_refl _),Nat.sub_self,List.set_cons_zero,List.append_assoc];rfl
      show List.foldl _ ((pre++r :: rest).toArray.setIfInBounds (off+j) a) _=_
      rw [e,ih off (j+1) (pre++[a]) rest (by simp;omega) (by simpa using h2)]
      simp
theorem fill_rows (size:Nat) (cs:List (Array Value)):∀ (k:Nat) (pre rest:List Value),pre.length=k * size→rest.length=cs.length * size→(∀ c ∈ cs,c.size=size) →
    Instr.fill (fun i=>some (i * size,size)) (pre++rest).toArray ((cs.zipIdx k).map fun x=>(x.2,Value.agg x.1))=some (pre++cs.flatMap (·.toList)).toArray:=by
  induction cs with
  | nil=>intro k pre rest h1 h2 _;simp at h2;subst h2;simp [Instr.fill]
  | cons c cs ih =>
    intro k pre rest h1 h2 h3
    have hc:c.size=size:=h3 c (by simp)
    rw [List.length_cons,Nat.succ_mul] at h2
    rw [List.zipIdx_cons,List.map_cons]
    unfold Instr.fill
    have hv:(Value.agg c).cells=c:=rfl
    simp only [hv,hc]
    rw [if_neg (by simp;omega)]
    have e:c.zipIdx.foldl (fun (cs:Array Value) (x:Value × Nat)=>cs.setIfInBounds (k * size+x.2) x.1) (pre++rest).toArray=(pre++c.toList++rest.drop size).toArray:=by
      rw [← Array.foldl_toList,Array.toList_zipIdx,fold_set c.toList (k * size) 0 pre rest (by omega) (by simp;omega)]
      simp [hc]
    have:=ih (k+1) (pre++c.toList) (rest.drop size) (by simp [hc,h1,Nat.succ_mul]) (by simp;omega) (fun c' h'=>h3 c' (by simp [h']))
    rw [List.flatMap_cons,← List.append_assoc,← this,← e]
end
section
open Go.RowKit
attribute [local go_sem ↓] Go.wp_at_zero Go.wp_at_succ
def exLine:Ln:=⟨7,1,[97]⟩
def exSay:Fr:=⟨1,0,0,0,0,0,exLine,[]⟩
def exPrepare:Fr:=⟨2,0,0,1,0,0,exLine,[]⟩
def exHold:Fr:=⟨3,1,0,1,0,0,Ln.zero,[]⟩
def exChange:Fr:=⟨5,2,1,0,0,0,Ln.zero,[]⟩
def exSay2:Fr:=⟨1,0,0,0,0,0,⟨7,2,[]⟩,[]⟩
def exOp (k n:Int) (s:List UInt8) (f:Fr) (c1 c2 c3 a:Int):OpG:=⟨k,n,s,f,none,0,c1,c2,c3,a⟩
def exOps (say prepare hold change say2:List UInt8):List OpG :=
  [exOp 1 0 [] exSay 0 0 0 0,exOp 1 0 [] Fr.zero 0 0 0 0,exOp 2 0 say Fr.zero 0 0 0 0,exOp 2 0 say.tail Fr.zero 0 0 0 0,exOp 3 0 [] Fr.zero 3 0 5 0,exOp 3 0 [] Fr.zero 0 0 0 0,exOp 3 0 [] Fr.zero 3 1 2 0,exOp 4 0 [] Fr.zero 0 0 0 0,
   exOp 9 0 say Fr.zero 0 0 0 0,exOp 6 0 [] Fr.zero 0 0 0 0,exOp 9 0 hold Fr.zero 0 0 0 0,exOp 10 0 [] Fr.zero 0 0 0 0,exOp 5 0 [] Fr.zero 0 0 0 0,exOp 9 0 say Fr.zero 0 0 0 0,exOp 9 1 prepare Fr.zero 0 0 0 0,exOp 6 1 [] Fr.zero 0 0 0 0,
   exOp 7 1 [] Fr.zero 0 0 0 0,exOp 4 1 [] Fr.zero 0 0 0 0,exOp 10 1 [] Fr.zero 0 0 0 0,exOp 10 1 [] Fr.zero 0 0 0 0,exOp 9 1 change Fr.zero 0 0 0 0,exOp 4 1 [] Fr.zero 0 0 0 0,exOp 8 0 [] Fr.zero 0 0 0 1,exOp 9 0 say2 Fr.zero 0 0 0 0,
   exOp 6 0 [] Fr.zero 0 0 0 2,exOp 4 0 [] Fr.zero 0 0 0 0,exOp 7 0 [] Fr.zero 0 0 0 2,exOp 4 0 [] Fr.zero 0 0 0 0]
theorem exOps_lines (a b c d e:List UInt8):∀ o ∈ exOps a b c d e,o.f.lines=[]:=by
  unfold exOps
  simp [exOp,exSay,Fr.zero]
theorem exOps_small (a b c d e:List UInt8) (ha:a.length≤9000000) (hb:b.length≤9000000) (hc:c.length≤9000000) (hd:d.length≤9000000) (he:e.length≤9000000):∀ o ∈ exOps a b c d e,o.small:=by
  have ht:a.length≤9000000+1:=by omega
  unfold exOps OpG.small
  simp [exOp,exSay,Fr.zero,ha,hb,hc,hd,he,ht]
theorem exOps_len (a b c d e:List UInt8):(exOps a b c d e).length=28:=rfl
def opCells (ops:List OpG):List Value:=ops.flatMap fun o=>o.cells.toList
theorem opCells_at (ops:List OpG):∀ (j r:Nat) (hj:j < ops.length),r < 17→(opCells ops)[j * 17+r]?=ops[j].cells[r]?:=by
  induction ops with
  | nil=>intro j r hj;exact absurd hj (by simp)
  | cons a l ih =>
    intro j r hj hr
    unfold opCells at *
    rw [List.flatMap_cons]
    have hlen:a.cells.toList.length=17:=rfl
    cases j with
    | zero=>rw [List.getElem?_append_left (by omega),Nat.zero_mul,Nat.zero_add,Array.getElem?_toList];rfl
    | succ j =>
      rw [List.getElem?_append_right (by omega),hlen,show (j+1) * 17+r - 17=j * 17+r from by omega,ih j r (by simp at hj;omega) hr]
      simp
theorem opsAt_of {w:World} {g:Nat} {ops:List OpG} {fz:Nat × Nat} (hb:w.heap[g]?=some (.cells (opCells ops).toArray 76 fz)) (hl:∀ o ∈ ops,o.f.lines=[]):OpsAt w (some ⟨g,0,none⟩) ops:=fun j hj =>
  ⟨g,0,rfl,fun r hr=>by rw [Nat.zero_add,cell_of_heap hb,List.getElem?_toArray,opCells_at ops j r hj hr],by rw [hl _ (List.getElem_mem hj)];exact fun i hi=>absurd hi (by simp)⟩
theorem ex_below_cast {B:Nat} {a x x':World} (h:Below B a x) (e1:x'.heap=x.heap) (e2:x'.os=x.os) (e3:x'.tape=x.tape) (e4:x'.output=x.output):Below B a x' :=
  ⟨e2.trans h.os,e3.trans h.tape,e4.trans h.output,by rw [e1];exact h.size,fun k hk=>by rw [e1];exact h.block k hk⟩
theorem ex_below_on {a x x' y:World} (h:Below a.heap.size a x) (g:Below x'.heap.size x' y) (e1:x'.heap=x.heap) (e2:x'.os=x.os) (e3:x'.tape=x.tape) (e4:x'.output=x.output):Below a.heap.size a y :=
  (ex_below_cast h e1 e2 e3 e4).trans (g.mono (by rw [e1];exact h.size))
theorem cell_alloc_keep {w:World} {a:Addr} {v:Value} (h:w.cell? a=some v) (o:Obj):(w.alloc o).cell? a=some v:=(World.cell?_alloc_lt _ _ _ (World.block_lt_of_cell? _ _ h)).trans h
theorem frame_gen (k fr v p a l c t:Int) (s:List UInt8) (w:World) :
    Calls Tryz.prog 29 #[.agg #[.int .i64 k,.int .i64 fr,.int .i64 v,.int .i64 p,.int .i64 a,.int .i64 l,.int .i64 c,.int .i64 t,.string ⟨s.toArray⟩,.slice none 0 0]] w
      fun e w'=>e=.returned (.string ⟨(packS ⟨k,fr,v,p,a,l,⟨c,t,s⟩,[]⟩).toArray⟩)∧Below w.heap.size w w' :=
  frame_any ⟨k,fr,v,p,a,l,⟨c,t,s⟩,[]⟩ none 0 w (fun j hj=>absurd hj (by simp)) (by simp) (by simp)
def rowsOf (cs:List (Array Value)):Array Value:=(cs.flatMap (·.toList)).toArray
theorem run_bs28 (w:World) (c0 c1 c2 c3 c4 c5 c6 c7 c8 c9 c10 c11 c12 c13 c14 c15 c16 c17 c18 c19 c20 c21 c22 c23 c24 c25 c26 c27:Array Value) (h:∀ c ∈ [c0,c1,c2,c3,c4,c5,c6,c7,c8,c9,c10,c11,c12,c13,c14,c15,c16,c17,c18,c19,c20,c21,c22,c23,c24,c25,c26,c27],c.size=17) :
    (Instr.buildSlice 22 28 #[(0,.agg c0),(1,.agg c1),(2,.agg c2),(3,.agg c3),(4,.agg c4),(5,.agg c5),(6,.agg c6),(7,.agg c7),(8,.agg c8),(9,.agg c9),(10,.agg c10),(11,.agg c11),(12,.agg c12),(13,.agg c13),(14,.agg c14),(15,.agg c15),(16,.agg c16),(17,.agg c17),(18,.agg c18),(19,.agg c19),(20,.agg c20),(21,.agg c21),(22,.agg c22),(23,.agg c23),(24,.agg c24),(25,.agg c25),(26,.agg c26),(27,.agg c27)]).run Tryz.prog w=.ok (.slice (some ⟨w.heap.size,0,none⟩) 28 28) (w.alloc (.cells (rowsOf [c0,c1,c2,c3,c4,c5,c6,c7,c8,c9,c10,c11,c12,c13,c14,c15,c16,c17,c18,c19,c20,c21,c22,c23,c24,c25,c26,c27]) 76)):=by
  have hi:(Tryz.prog.info? 76).map (fun i=>(i.zero.isSome,i.size))=some (true,17):=by kernel_rfl
  cases hie:Tryz.prog.info? 76 with
  | none=>rw [hie] at hi;cases hi
  | some ie =>
    rw [hie,Option.map_some,Option.some.injEq,Prod.mk.injEq] at hi
    obtain ⟨hz,hs⟩:=hi
    obtain ⟨z,hz⟩:=Option.isSome_iff_exists.1 hz
    refine run_buildSlice w _ _ 28 _ (rowsOf [c0,c1,c2,c3,c4,c5,c6,c7,c8,c9,c10,c11,c12,c13,c14,c15,c16,c17,c18,c19,c20,c21,c22,c23,c24,c25,c26,c27]) ie z (by kernel_rfl) hie hz (by omega) (by omega) ?_
    rw [hs]
    have hl:((Array.range (28 * 17)).map (z.cells[· % z.cells.size]!))=(([]:List Value)++((Array.range (28 * 17)).map (z.cells[· % z.cells.size]!)).toList).toArray:=by rw [List.nil_append,Array.toArray_toList]
    rw [hl]
    exact fill_rows 17 [c0,c1,c2,c3,c4,c5,c6,c7,c8,c9,c10,c11,c12,c13,c14,c15,c16,c17,c18,c19,c20,c21,c22,c23,c24,c25,c26,c27] 0 [] _ (by simp) (by simp) h
attribute [-go_sem] Instr.buildSlice
attribute [local go_sem] run_bs28
theorem example_any (least last:Int) (lead:Bool) (w:World)
    (HPL:∀ (x:World) (g:Nat),OpsAt x (some ⟨g,0,none⟩) (exOps (packS exSay) (packS exPrepare) (packS exHold) (packS exChange) (packS exSay2))→Calls Tryz.prog 13 #[.slice (some ⟨g,0,none⟩) 28 28,.int .i64 least,.int .i64 last,.bool lead] x fun e y=>e=.returned (.int .i64 (-1))∧Below x.heap.size x y) :
    Calls Tryz.prog 12 #[.int .i64 least,.int .i64 last,.bool lead] w fun e y=>e=.returned (.bool true)∧Below w.heap.size w y:=by
  have HP:=hid HPL
  clear HPL
  have hs1:1≤(packS exSay).length:=by decide +kernel
  go_enter Tryz.func12,Tryz.ntmps12
  go_wp2_with fail
  refine (frame_gen 1 0 0 0 0 0 7 1 [97] _).mono ?_
  rintro e w1 ⟨rfl,hb1⟩
  have HW1:Hid (Below w.heap.size w w1):=((Below.refl _ w).alloc (Nat.le_refl _) _).trans (hb1.mono (by simp))
  have hz1:w.heap.size < w1.heap.size:=by have:=hb1.size;simp at this;omega
  obtain ⟨q1,q2⟩:=bcell hb1
  clear hb1 q2
  have c0:w1.cell? ⟨w.heap.size,0,none⟩=some (.int .i64 7):=by rw [q1 _ _ (by simp)];exact World.cell?_alloc_new _ _ _ _
  have c1:w1.cell? ⟨w.heap.size,1,none⟩=some (.int .i64 1):=by rw [q1 _ _ (by simp)];exact World.cell?_alloc_new _ _ _ _
  have c2:w1.cell? ⟨w.heap.size,2,none⟩=some (.string ⟨#[97]⟩):=by rw [q1 _ _ (by simp)];exact World.cell?_alloc_new _ _ _ _
  clear q1
  change _ at hs1
  have hsay:Hid (packS ⟨1,0,0,0,0,0,⟨7,1,[97]⟩,[]⟩=packS exSay):=rfl
  rw [hsay.out]
  generalize packS exSay=sb at *
  go_wp2_with fail
  refine (frame_gen 2 0 0 1 0 0 7 1 [97] _).mono ?_
  rintro e w2 ⟨rfl,hb2⟩
  have hprep:Hid (packS ⟨2,0,0,1,0,0,⟨7,1,[97]⟩,[]⟩=packS exPrepare):=rfl
  rw [hprep.out]
  generalize packS exPrepare=pb at *
  have HW2:=hid (HW1.out.trans (hb2.mono HW1.out.size))
  have d0:w2.cell? ⟨w.heap.size,0,none⟩=some (.int .i64 7):=(hb2.cell (p:=⟨w.heap.size,0,none⟩) hz1).trans c0
  have d1:w2.cell? ⟨w.heap.size,1,none⟩=some (.int .i64 1):=(hb2.cell (p:=⟨w.heap.size,1,none⟩) hz1).trans c1
  have d2:w2.cell? ⟨w.heap.size,2,none⟩=some (.string ⟨#[97]⟩):=(hb2.cell (p:=⟨w.heap.size,2,none⟩) hz1).trans c2
  have hz2:w.heap.size < w2.heap.size:=by have:=hb2.size;omega
  clear hb2 c0 c1 c2
  go_wp2
  obtain ⟨X,hX⟩:∃ X,X=(w2.alloc (.cells #[.int .i64 3,.int .i64 0,.int .i64 5] 63)).alloc (.cells #[.int .i64 3,.int .i64 1,.int .i64 2] 63):=⟨_,rfl⟩
  have HX:Hid (Below w.heap.size w X):=by show Below _ _ _;rw [hX];exact (HW2.out.alloc (by omega) _).alloc (by rw [World.size_alloc];omega) _
  have x0:X.cell? ⟨w.heap.size,0,none⟩=some (.int .i64 7):=by rw [hX,World.cell?_alloc_past _ _ _ (by rw [World.size_alloc];omega),World.cell?_alloc_past _ _ _ hz2];exact d0
  have x1:X.cell? ⟨w.heap.size,1,none⟩=some (.int .i64 1):=by rw [hX,World.cell?_alloc_past _ _ _ (by rw [World.size_alloc];omega),World.cell?_alloc_past _ _ _ hz2];exact d1
  have x2:X.cell? ⟨w.heap.size,2,none⟩=some (.string ⟨#[97]⟩):=by rw [hX,World.cell?_alloc_past _ _ _ (by rw [World.size_alloc];omega),World.cell?_alloc_past _ _ _ hz2];exact d2
  have yy:∀ j,X.cell? ⟨w2.heap.size,j,none⟩=(#[Value.int .i64 3,.int .i64 0,.int .i64 5]:Array Value)[j]?:=fun j=>by rw [hX,World.cell?_alloc_past _ _ _ (by rw [World.size_alloc];omega)];exact World.cell?_alloc_new _ _ _ _
  have y0:X.cell? ⟨w2.heap.size,0,none⟩=some (.int .i64 3):=yy 0
  have y1:X.cell? ⟨w2.heap.size,1,none⟩=some (.int .i64 0):=yy 1
  have y2:X.cell? ⟨w2.heap.size,2,none⟩=some (.int .i64 5):=yy 2
  have zz:∀ j,X.cell? ⟨w2.heap.size+1,j,none⟩=(#[Value.int .i64 3,.int .i64 1,.int .i64 2]:Array Value)[j]?:=fun j=>by rw [hX,World.cell?_alloc_at _ _ _ _ (by rw [World.size_alloc])]
  have z0:X.cell? ⟨w2.heap.size+1,0,none⟩=some (.int .i64 3):=zz 0
  have z1:X.cell? ⟨w2.heap.size+1,1,none⟩=some (.int .i64 1):=zz 1
  have z2:X.cell? ⟨w2.heap.size+1,2,none⟩=some (.int .i64 2):=zz 2
  rw [← hX]
  clear hX yy zz d0 d1 d2 HW2 HW1
  have b1:(1:Int)≤(sb.length:Int):=by omega
  generalize w2.heap.size=B2 at *
  have hx1:(⟨sb.toArray⟩:ByteArray).extract 1 sb.length=⟨(sb.drop 1).toArray⟩:=by rw [extr,List.take_of_length_le (by rw [List.length_drop];omega)]
  clear hz1 hz2 hs1 hsay hprep
  go_region_held (fun x=>x.cell? ⟨w.heap.size,0,none⟩=some (.int .i64 7)∧x.cell? ⟨w.heap.size,1,none⟩=some (.int .i64 1)∧x.cell? ⟨w.heap.size,2,none⟩=some (.string ⟨#[97]⟩)∧x.cell? ⟨B2,0,none⟩=some (.int .i64 3)∧x.cell? ⟨B2,1,none⟩=some (.int .i64 0)∧x.cell? ⟨B2,2,none⟩=some (.int .i64 5) ∧
    x.cell? ⟨B2+1,0,none⟩=some (.int .i64 3)∧x.cell? ⟨B2+1,1,none⟩=some (.int .i64 1)∧x.cell? ⟨B2+1,2,none⟩=some (.int .i64 2)) (first | go_keep | (go_split_ands;refine ⟨?_,?_,?_,?_,?_,?_,?_,?_,?_⟩ <;> (refine (hbf.cell (World.block_lt_of_cell? _ _ (by assumption))).trans ?_;assumption)) | (go_split_ands;refine ⟨?_,?_,?_,?_,?_,?_,?_,?_,?_⟩ <;> (refine cell_alloc_keep ?_ _;assumption)))
    (first | (go_at_call 29;refine (frame_gen _ _ _ _ _ _ _ _ _ _).mono ?_;rintro e wf ⟨rfl,hbf⟩;have HX:=hid (ex_below_on HX.out hbf rfl rfl rfl rfl)))
  rename_i hh
  clear hh
  generalize hY:World.alloc wf _=Y
  have hops:Hid (OpsAt Y (some ⟨wf.heap.size,0,none⟩) (exOps sb pb (packS exHold) (packS exChange) (packS exSay2))):=by
    rw [← hY]
    exact opsAt_of (heap_alloc_new wf _) (exOps_lines _ _ _ _ _)
  have HY:Hid (Below w.heap.size w Y):=by rw [← hY];exact HX.out.alloc HX.out.size _
  clear hY
  go_wp2_with fail
  refine (HP.out _ _ hops.out).mono ?_
  rintro e y ⟨rfl,hb⟩
  go_wp2
  go_ret
  exact ⟨rfl,HY.out.trans (hb.mono HY.out.size)⟩
end
section
open Go.RowKit
attribute [local go_sem ↓] Go.wp_at_zero Go.wp_at_succ
theorem LawAt.kept {KIs:KeeperIs} {Iv:LK→Prop} (HKS:KeepsSaid KIs) {x Y z:World} {W:Nat} {lead:Bool} {gh gp:Option Nat} {n cap np cp:Nat} {H:Nat→HG} {P:Nat→PG} {R:Nat→Prop} (hw:WI Y W (sl gp np cp) lead gh n cap H) (hps:PS KIs Iv Y W gh n H gp np cp P) (h6:np≤6) (hb:Below x.heap.size x Y)
    (hk:KeptH Y W (sl gp np cp) lead gh n H R z) (hR:∀ k,R k→x.heap.size≤k) (hx:PS KIs Iv x W gh n H gp np cp P):LawAt KIs Iv x W lead (n+4) gh gp z:=by
  obtain ⟨⟨gh2,cap2,H2,W7,gg2,f2⟩,t2⟩:=hk
  have hs:=hb.size
  refine ⟨⟨gh2,cap2,H2,gp,np,cp,P,W7,hps.move HKS t2 f2 (fun j hj k hk r=>?_) (fun k e r=>?_),h6,fun k e=>?_,fun k e=>.inl e⟩,(Touch.of_belowAll hb _).trans t2 (fun k hk e=>?_)⟩
  · have:=hx.lt j hj k hk;have:=hR k r;omega
  · have:=hx.own.lt e;have:=hR k r;omega
  · rcases gg2 k e with e | e
    · exact .inl e
    · exact .inr (by omega)
  · rcases e with e | e | e
    · exact .inl (Nat.le_of_eq e.symm)
    · exact .inr (.inl e)
    · have:=hR k e;omega
theorem stepTell (KIs:KeeperIs) (Iv:LK→Prop) (lead:Bool) (HKS:KeepsSaid KIs) (HSS:StateSaid KIs) (HAS:AgreedSaid KIs) (HDS:DiskSaid KIs) (HIK:∀ s,Iv s→s.ok) (x:World) (W:Nat) (gh:Option Nat) (n cap:Nat) (H:Nat→HG) (gp:Option Nat) (np cp:Nat) (P:Nat→PG) (hw:WI x W (sl gp np cp) lead gh n cap H) (hps:PS KIs Iv x W gh n H gp np cp P) (h0:0 < np) (h6:np≤6) (hn:n≤95000000)
    (o:OpG) (hk:o.kind=4∨o.kind=5∨o.kind=6) (hr:-9223372036854775808≤o.n∧o.n≤9223372036854775807) :
    Calls Tryz.prog 30 #[.pointer (some ⟨W,0,none⟩),.agg o.cells] x fun e y=>e=.returned (.bool true)∧∃ m,m≤4∧LawAt KIs Iv x W lead (n+m) gh gp y:=by
  have HWI:=hid hw
  have HPS:=hid hps
  have w0:=cell_of_heap hw.wb 0
  simp only [List.getElem?_toArray,List.getElem?_cons_zero] at w0
  unfold sl at w0
  have hWl:W < x.heap.size:=heap_lt hw.wb
  clear hw hps
  unfold OpG.cells sla
  obtain ⟨okind,on,l,f,fa,fc,k1,k2,k3,oa⟩:=o
  dsimp only at *
  have n1:(okind == 1)=false:=beq_eq_false_iff_ne.2 (by omega)
  have n2:(okind == 2)=false:=beq_eq_false_iff_ne.2 (by omega)
  have n3:(okind == 3)=false:=beq_eq_false_iff_ne.2 (by omega)
  have n7:(okind == 7)=false:=beq_eq_false_iff_ne.2 (by omega)
  have hz:((np:Int) == 0)=false:=beq_eq_false_iff_ne.2 (by omega)
  go_enter Tryz.func30,Tryz.ntmps30
  go_wp2
  generalize hY:x.alloc (.cells #[.int .i64 okind,.int .i64 on,.string ⟨l.toArray⟩,.int .i64 f.kind,.int .i64 f.frm,.int .i64 f.view,.int .i64 f.place,.int .i64 f.agreed,.int .i64 f.last,.int .i64 f.line.c,.int .i64 f.line.t,.string ⟨f.line.s.toArray⟩,.slice fa f.lines.length fc,.int .i64 k1,.int .i64 k2,.int .i64 k3,.int .i64 oa] 76)=Y
  have y0:Y.cell? ⟨x.heap.size,0,none⟩=some (.int .i64 okind):=by rw [← hY];exact World.cell?_alloc_new _ _ _ _
  have y1:Y.cell? ⟨x.heap.size,1,none⟩=some (.int .i64 on):=by rw [← hY];exact World.cell?_alloc_new _ _ _ _
  have y16:Y.cell? ⟨x.heap.size,16,none⟩=some (.int .i64 oa):=by rw [← hY];exact World.cell?_alloc_new _ _ _ _
  have BY:Hid (Below x.heap.size x Y):=by show Below _ _ _;rw [← hY];exact (Below.refl _ _).alloc (Nat.le_refl _) _
  have hxl:x.heap.size < Y.heap.size:=by rw [← hY];simp
  have WY:=hid (HWI.out.below BY.out)
  have PY:=hid (HPS.out.below HKS BY.out)
  clear hY w0
  have v0:=cell_of_heap WY.out.wb 0
  simp only [List.getElem?_toArray,List.getElem?_cons_zero] at v0
  unfold sl at v0
  have hi:=pickN_lt on h0
  have HPK:=hid (pick_any on np)
  generalize pickN on np=i at hi HPK ⊢
  obtain ⟨gP,hgP,cP⟩:=PY.out.ptr i hi
  obtain ⟨K,F,Kr,G,q1,q2,q3,q5⟩:=PY.out.pl i hi
  have hiv:=PY.out.iv i hi
  generalize hPi:P i=pi at *
  obtain ⟨pp,pN,ps⟩:=pi
  dsimp only at *
  have HOK:=hid (HIK ps hiv)
  have HQ2:=hid q2
  have HQ3:=hid q3
  have HQ1:=hid q1
  clear hiv q2 q3 q1
  subst hgP
  have i0:(0:Int)≤(i:Int):=by omega
  have i1:(i:Int) < (np:Int):=by omega
  simp only [Option.map_some] at v0 ⊢
  have HX:Hid (Below Y.heap.size Y Y):=Below.refl _ _
  have HR:=hid hr
  clear hr
  go_region_held (fun z=>z.cell? ⟨x.heap.size,1,none⟩=some (.int .i64 on)∧z.cell? ⟨W,0,none⟩=some (.slice (some ⟨gP,0,none⟩) np cp)∧z.cell? ⟨gP,i,none⟩=some (.pointer (some ⟨pp,0,none⟩)))
    (go_keep)
    (first | (go_at_call 54;refine (HPK.out _ h0 (by omega) HR.out).mono ?_;rintro e wf ⟨rfl,rfl⟩))
  rename_i hh
  clear hh
  obtain ⟨Y2,hY2⟩:∃ Y2:World,Y2=Y.drew:=⟨_,rfl⟩
  have bY2:Below Y.heap.size Y Y2:=by rw [hY2];exact (Below.refl _ _).drew
  have hs2:Y2.heap.size=Y.heap.size:=by rw [hY2];rfl
  have u0:Y2.cell? ⟨x.heap.size,0,none⟩=some (.int .i64 okind):=by rw [hY2];exact y0
  have z16:Y2.cell? ⟨x.heap.size,16,none⟩=some (.int .i64 oa):=by rw [hY2];exact y16
  rw [← hY2]
  have W2:=hid (WY.out.below bY2)
  have P2:=hid (PY.out.below HKS bY2)
  have B2:=hid (BY.out.trans (bY2.mono BY.out.size))
  have HK2:=hid (HKS _ _ _ _ _ _ HQ2.out (Touch.of_belowAll bY2 (fun _=>False)) (fun _ _ h=>h))
  have HR2:=hid (HQ3.out.below bY2)
  have HP2:=hid ((bY2.block _ (heap_lt HQ1.out)).trans HQ1.out)
  clear hY2 bY2 y0 y1 y16 v0 WY PY BY HX cP HQ1 HQ2 HQ3 HPK
  have p0:=cell_of_heap HP2.out 0
  have p1:=cell_of_heap HP2.out 1
  simp only [List.getElem?_toArray,List.getElem?_cons_zero,List.getElem?_cons_succ] at p0 p1
  rcases hk with rfl | rfl | rfl
  · clear n1 n2 n3 n7 hz z16
    go_wp2
    have HX:Hid (Below Y2.heap.size Y2 Y2):=Below.refl _ _
    have HSS:=hid HSS
    have SV:Hid (∀ z,Below Y2.heap.size Y2 z→Calls Tryz.prog 26 #[.pointer (some ⟨K,0,none⟩)] z fun e w'=>e=.returned (.agg #[.int .i64 ps.mv.view,.int .i64 ps.mv.last,.int .i64 ps.mv.ls.length,.int .i64 ps.av])∧Below z.heap.size z w'):=fun z hz=>HSS.out z K F ps (HKS _ _ _ _ _ _ HK2.out (Touch.of_belowAll hz (fun _=>False)) (fun _ _ h=>h)) HOK.out
    have RV:Hid (∀ z,Below Y2.heap.size Y2 z→Calls Tryz.prog 55 #[.pointer (some ⟨Kr,0,none⟩)] z fun e w'=>e=.returned (.agg #[.int .i64 ps.mv.view,.int .i64 ps.mv.last,.int .i64 ps.mv.ls.length,.int .i64 ps.av])∧Below z.heap.size z w'):=fun z hz=>refState_any Kr G ps z (HR2.out.below hz)
    generalize ps.mv.view=mv at *
    generalize ps.mv.last=ml at *
    generalize ps.mv.ls.length=mn at *
    generalize ps.av=ma at *
    go_region_held (fun z=>z.cell? ⟨pp,0,none⟩=some (.pointer (some ⟨K,0,none⟩))∧z.cell? ⟨pp,1,none⟩=some (.pointer (some ⟨Kr,0,none⟩)))
      (first | go_keep | (go_split_ands;refine ⟨?_,?_⟩ <;> (refine (hbf.cell (World.block_lt_of_cell? _ _ (by assumption))).trans ?_;assumption)))
      (first
        | (go_at_call 26;refine (SV.out _ (by exact ex_below_cast HX.out rfl rfl rfl rfl)).mono ?_;rintro e wf ⟨rfl,hbf⟩;have HX:=hid (ex_below_on HX.out hbf rfl rfl rfl rfl))
        | (go_at_call 55;refine (RV.out _ (by exact ex_below_cast HX.out rfl rfl rfl rfl)).mono ?_;rintro e wf ⟨rfl,hbf⟩;have HX:=hid (ex_below_on HX.out hbf rfl rfl rfl rfl)))
    rename_i hh
    clear hh
    go_wp2
    go_ret
    exact ⟨rfl,0,by omega,LawAt.still HKS HWI.out HPS.out h6 (B2.out.trans (HX.out.mono B2.out.size))⟩
  · clear n1 n2 n3 n7 hz z16
    obtain ⟨ll,hll⟩:∃ ll:List Ln,ll=ps.mv.ls.take ps.av:=⟨_,rfl⟩
    have hsm:ll.length≤20:=by have:=LK.mv_len HOK.out;rw [hll,List.length_take];omega
    have AV:Hid (∀ z,Below Y2.heap.size Y2 z→Calls Tryz.prog 24 #[.pointer (some ⟨K,0,none⟩)] z fun e w'=>∃ g c,e=.returned (.slice (g.map fun k=>⟨k,0,none⟩) ll.length c)∧OwnLines z w' g c ll∧Below z.heap.size z w'):=fun z hz=>by
      rw [hll];exact HAS z K F ps (HKS _ _ _ _ _ _ HK2.out (Touch.of_belowAll hz (fun _=>False)) (fun _ _ h=>h)) HOK.out
    have RV:Hid (∀ z,Below Y2.heap.size Y2 z→Calls Tryz.prog 57 #[.pointer (some ⟨Kr,0,none⟩)] z fun e w'=>∃ a c,e=.returned (.slice a ll.length c)∧LinesAt w' a ll∧Below z.heap.size z w'):=fun z hz=>by
      rw [hll];exact refLines_any Kr G ps z (HR2.out.below hz) HOK.out
    clear hll
    go_wp2_with fail
    refine (AV.out _ (Below.refl _ _)).mono ?_
    rintro e Y3 ⟨ga,ca,rfl,hol,hb3⟩
    have B23:=hid hb3
    have HP3:=hid ((hb3.block _ (heap_lt HP2.out)).trans HP2.out)
    have HOL:=hid hol
    have hs3:Y2.heap.size≤Y3.heap.size:=hb3.size
    clear hb3 hol p0 p1 u0
    have p1:=cell_of_heap HP3.out 1
    simp only [List.getElem?_toArray,List.getElem?_cons_zero,List.getElem?_cons_succ] at p1
    go_wp2_with fail
    refine (RV.out _ B23.out).mono ?_
    rintro e Y4 ⟨a4,c4,rfl,hl4,hb4⟩
    have B24:=hid (B23.out.trans (hb4.mono B23.out.size))
    have HOL4:=hid (HOL.out.below hb4)
    have HL4:=hid hl4
    have hs4:Y3.heap.size≤Y4.heap.size:=hb4.size
    clear hb4 hl4 p1
    go_wp2_with fail
    refine (sameLines_any (ga.map fun k=>(⟨k,0,none⟩:Addr)) a4 ca c4 ll Y4 (by omega) HOL4.out.at_ HL4.out).mono ?_
    rintro e Y5 ⟨rfl,hb5⟩
    have B25:=hid (B24.out.trans (hb5.mono B24.out.size))
    have HOL5:=hid (HOL4.out.below hb5)
    have hs5:Y4.heap.size≤Y5.heap.size:=hb5.size
    clear hb5
    have W5:=hid (W2.out.below B25.out)
    have P5:=hid (P2.out.below HKS B25.out)
    have B5:=hid (B2.out.trans (B25.out.mono B2.out.size))
    have HNG:Hid (∀ k,ga=some k→Y2.heap.size≤k):=HOL.out.new
    have hx2:x.heap.size≤Y2.heap.size:=B2.out.size
    go_wp2_with fail
    refine (keep_hold Y5 W (sl (some gP) np cp) lead gh n cap H W5.out none ga none 0 0 ll.length ca 0 0 (.inl ⟨rfl,rfl,rfl⟩) HOL5.out.own (.inl ⟨rfl,rfl,rfl⟩) (fun g e=>by cases e) (fun g e=>by cases e) (fun g _ e=>by cases e)
      (fun k' e=>HWI.out.free_new (by rcases e with e | e | e;cases e;(have:=HNG.out k' e;omega);cases e)) (by omega) (by omega) (by omega) (by omega)).mono ?_
    rintro e Y7 ⟨rfl,K1⟩
    have LA:Hid (LawAt KIs Iv x W lead (n+4) gh (some gP) Y7):=LawAt.kept HKS W5.out P5.out h6 B5.out K1 (fun k e=>by
      rcases e with e | e | e
      · cases e
      · have:=HNG.out k e;omega
      · cases e) HPS.out
    clear K1
    go_wp2
    go_ret
    exact ⟨rfl,4,by omega,LA.out⟩
  · clear n1 n2 n3 n7 hz
    go_wp2
    go_still_tail 6,(by kernel_rfl)
    go_wp2_with fail
    refine (HDS Y2.drew K F ps oa (HKS _ _ _ _ _ _ HK2.out ((Touch.refl (fun _=>False) Y2).drew) (fun _ _ h=>h)) HOK.out).mono ?_
    rintro e Y3 ⟨gb,cb,rfl,hob,hb3⟩
    have b23:Below Y2.heap.size Y2 Y3:=(Below.refl _ Y2).drew.trans hb3
    have W3:=hid (W2.out.below b23)
    have P3:=hid (P2.out.below HKS b23)
    have B3:=hid (B2.out.trans (b23.mono B2.out.size))
    have HR3:=hid (HR2.out.below b23)
    have HP3:=hid ((b23.block _ (heap_lt HP2.out)).trans HP2.out)
    have HOB:=hid (hob.base (u:=Y2) (Nat.le_refl _))
    have hs3:Y2.heap.size≤Y3.heap.size:=b23.size
    have z16':Y3.cell? ⟨x.heap.size,16,none⟩=some (.int .i64 oa):=(b23.cell (World.block_lt_of_cell? _ _ z16)).trans z16
    clear hb3 hob p0 p1 u0 b23 z16
    have p1:=cell_of_heap HP3.out 1
    simp only [List.getElem?_toArray,List.getElem?_cons_zero,List.getElem?_cons_succ] at p1
    clear HDS
    obtain ⟨pd,hpd⟩:∃ pd:List UInt8,pd=ps.image oa:=⟨_,rfl⟩
    have hpl:pd.length≤9900000:=by rw [hpd];exact Nat.le_trans (LK.image_len ps oa) HOK.out.1
    rw [← hpd] at HOB ⊢
    have RV:Hid (∀ z,Below Y3.heap.size Y3 z→Calls Tryz.prog 59 #[.pointer (some ⟨Kr,0,none⟩),.int .i64 oa] z fun e w'=>e=.returned (.string ⟨pd.toArray⟩)∧Below z.heap.size z w'):=fun z hz=>by
      rw [hpd];exact refImage_any Kr G ps _ oa (HR3.out.below hz) HOK.out.1
    have CV:Hid (∀ z,Below Y3.heap.size Y3 z→(convert 31 9 (.slice (gb.map fun k=>⟨k,0,none⟩) pd.length cb)).run Tryz.prog z=.ok (.string ⟨pd.toArray⟩) z):=fun z hz=>conv_bytes gb cb pd z (HOB.out.below hz).at_
    clear hpd
    unfold sl
    go_wp2
    have HX:Hid (Below Y3.heap.size Y3 Y3):=Below.refl _ _
    have HP1:=hid p1
    have HZ16:=hid z16'
    clear p1 z16'
    have hS0:(fun z:World=>Below Y3.heap.size Y3 z∧(convert 31 9 (.slice (gb.map fun k=>⟨k,0,none⟩) pd.length cb)).run Tryz.prog z=.ok (.string ⟨pd.toArray⟩) z∧z.cell? ⟨pp,1,none⟩=some (.pointer (some ⟨Kr,0,none⟩))∧z.cell? ⟨x.heap.size,16,none⟩=some (.int .i64 oa)) Y3.drew:=⟨(Below.refl _ _).drew,CV.out _ ((Below.refl _ _).drew),HP1.out,HZ16.out⟩
    refine wp_region_held_drew (S:=fun z:World=>Below Y3.heap.size Y3 z∧(convert 31 9 (.slice (gb.map fun k=>⟨k,0,none⟩) pd.length cb)).run Tryz.prog z=.ok (.string ⟨pd.toArray⟩) z∧z.cell? ⟨pp,1,none⟩=some (.pointer (some ⟨Kr,0,none⟩))∧z.cell? ⟨x.heap.size,16,none⟩=some (.int .i64 oa)) (by kernel_rfl) hS0 (fun hS=>?_)
    clear hS0
    refine tH 0 hS ?_
    try simp only [lA,lB,lC,Act.put,lD,lE,lF]
    refine tH 2 hS ?_
    try simp only [lA,lB,lC,Act.put,lD,lE,lF]
    refine tH 3 hS ?_
    try simp only [lA,lB,lC,Act.put,lD,lE,lF]
    refine tH 4 hS ?_
    try simp only [lA,lB,lC,Act.put,lD,lE,lF]
    refine tH 6 hS ?_
    try simp only [lA,lB,lC,Act.put,lD,lE,lF]
    refine tH 1 hS ?_ (hy:=by (intro w hw;obtain ⟨_,s1,s2,s3⟩:=hw;go_simp;try with_reducible rfl))
    try simp only [lA,lB,lC,Act.put,lD,lE,lF]
    refine tH 5 hS ?_ (hy:=by (intro w hw;obtain ⟨_,s1,s2,s3⟩:=hw;go_simp;try with_reducible rfl))
    try simp only [lA,lB,lC,Act.put,lD,lE,lF]
    refine tH 7 hS ?_ (hy:=by (intro w hw;obtain ⟨_,s1,s2,s3⟩:=hw;go_simp;try with_reducible rfl))
    try simp only [lA,lB,lC,Act.put,lD,lE,lF]
    refine wpAnyH_ready (rs:=[8]) (by kernel_rfl) (by simp) ?_
    refine AllReadyH.cons rfl (fun K hK=>?_) AllReadyH.nil
    go_simp
    refine (RV.out _ hS.1).mono ?_
    rintro e Y4 ⟨rfl,hbf⟩
    have HX:=hid (hS.1.trans (hbf.mono hS.1.size))
    clear hbf
    refine hK.out _ _ ⟨HX.out,CV.out _ HX.out,(Below.cell HX.out (World.block_lt_of_cell? _ _ HP1.out)).trans HP1.out,(Below.cell HX.out (World.block_lt_of_cell? _ _ HZ16.out)).trans HZ16.out⟩ (fun hS=>?_)
    clear hK K
    refine tH 9 hS ?_
    try simp only [lA,lB,lC,Act.put,lD,lE,lF]
    refine tH 10 hS ?_
    try simp only [lA,lB,lC,Act.put,lD,lE,lF]
    refine wpAnyH_done (by kernel_rfl) ?_ _
    clear hS
    have b34:=HX.out
    have W4:=hid (W3.out.below b34)
    have P4:=hid (P3.out.below HKS b34)
    have B4:=hid (B3.out.trans (b34.mono B3.out.size))
    have HOB4:=hid (HOB.out.below b34)
    have hs4:Y3.heap.size≤Y4.heap.size:=b34.size
    have HNG:Hid (∀ k,gb=some k→Y2.heap.size≤k):=HOB.out.new
    have hx2:x.heap.size≤Y2.heap.size:=B2.out.size
    clear b34
    go_wp2_with fail
    refine (keep_hold Y4 W (sl (some gP) np cp) lead gh n cap H W4.out gb none none pd.length cb 0 0 0 0 HOB4.out.own (.inl ⟨rfl,rfl,rfl⟩) (.inl ⟨rfl,rfl,rfl⟩) (fun g _ e=>by cases e) (fun g _ e=>by cases e) (fun g e=>by cases e)
      (fun k' e=>HWI.out.free_new (by rcases e with e | e | e;(have:=HNG.out k' e;omega);cases e;cases e)) (by omega) (by omega) (by omega) (by omega)).mono ?_
    rintro e Y7 ⟨rfl,K1⟩
    have LA:Hid (LawAt KIs Iv x W lead (n+4) gh (some gP) Y7):=LawAt.kept HKS W4.out P4.out h6 B4.out K1 (fun k e=>by
      rcases e with e | e | e
      · have:=HNG.out k e;omega
      · cases e
      · cases e) HPS.out
    clear K1
    go_wp2
    go_ret
    exact ⟨ret_bool (by simp),4,by omega,LA.out⟩
end
end Go.Proofs.YtolififimldmlaaGreat
