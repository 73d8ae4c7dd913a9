import Derived.Test.YtolififimldmlaaGreatPart02
import Derived.Test.YtolififimldmlaaGreatRows
import Derived.ProofKit
import Derived.Deep.Slices
import Derived.Test.YtolififimldmlaaGreatPart01
set_option linter.unusedVariables false
set_option linter.unusedSimpArgs false
set_option maxRecDepth 100000
set_option maxHeartbeats 16000000
namespace Go.Proofs.YtolififimldmlaaGreat
section
open Go.RowKit Go.Deep
/-! What the reading of a script says of memory. -/
section
variable {X:Type} {enc:TypeId × Value→X} {w:World}
theorem bulk_pos {H:Type} (d:DataW H):1≤Rows.uptoBulk d:=by
  cases d with
  | lit l=>cases l <;> simp [Rows.uptoBulk]
  | nil=>simp [Rows.uptoBulk]
  | ptr d=>simp [Rows.uptoBulk]
  | slice elems spare=>simp [Rows.uptoBulk]
  | agg parts=>simp [Rows.uptoBulk]
  | iface t d=>simp [Rows.uptoBulk]
  | map entries=>simp [Rows.uptoBulk]
  | held h=>simp [Rows.uptoBulk]
theorem bulk_part {H:Type} {d:DataW H} {l:List (DataW H)} (h:d ∈ l):Rows.uptoBulk d≤Rows.uptoBulkAll l:=by
  induction l with
  | nil=>cases h
  | cons x r ih =>
    simp only [Rows.uptoBulkAll]
    cases List.mem_cons.1 h with
    | inl e=>subst e;omega
    | inr e=>have:=ih e;omega
theorem bulk_len {H:Type} (l:List (DataW H)):l.length≤Rows.uptoBulkAll l:=by
  induction l with
  | nil=>simp [Rows.uptoBulkAll]
  | cons x r ih=>have:=bulk_pos x;simp only [Rows.uptoBulkAll,List.length_cons];omega
theorem bulk_slice {H:Type} (l r:List (DataW H)):l.length≤Rows.uptoBulk (.slice l r):=by
  have:=bulk_len l
  simp only [Rows.uptoBulk];omega
theorem bulk_slice_part {H:Type} {d:DataW H} {l r:List (DataW H)} (h:d ∈ l):Rows.uptoBulk d≤Rows.uptoBulk (.slice l r):=by
  have:=bulk_part h
  simp only [Rows.uptoBulk];omega
theorem bulk_agg_part {H:Type} {d:DataW H} {l:List (DataW H)} (h:d ∈ l):Rows.uptoBulk d≤Rows.uptoBulk (.agg l):=by
  have:=bulk_part h
  simp only [Rows.uptoBulk];omega
theorem cellsLine:Tryz.prog.cellsOf 27=3:=by kernel_rfl
theorem cellsFrame:Tryz.prog.cellsOf 30=10:=by kernel_rfl
theorem cellsConfig:Tryz.prog.cellsOf 63=3:=by kernel_rfl
theorem cellsOp:Tryz.prog.cellsOf 76=17:=by kernel_rfl
theorem cellsInt:Tryz.prog.cellsOf 3=1:=by kernel_rfl
theorem cellsStr:Tryz.prog.cellsOf 9=1:=by kernel_rfl
theorem cellsSl:Tryz.prog.cellsOf 28=1:=by kernel_rfl
theorem addr_add0 (g o j:Nat):(⟨g,o,none⟩:Addr).add j=⟨g,o+j,none⟩:=by unfold Addr.add;split <;> simp_all
theorem len3 {α:Type} {l:List α} (h:l.length=3):∃ a b c,l=[a,b,c]:=by
  match l,h with
  | [a,b,c],_=>exact ⟨a,b,c,rfl⟩
theorem some_at {α:Type} {l:List α} {n:Nat} (h:l.length=n) (i:Nat) (hi:i < n):∃ y,l[i]?=some y:=⟨l[i],List.getElem?_eq_getElem (by omega)⟩
theorem line_open {fuel:Nat} {cs:List Value} {x:DataW X × List MemPlace} (h:DataW.trod enc Tryz.prog w 0 (fun _=>true) true fuel 27 cs=some x):∃ l:Ln,cs=l.cells:=by
  obtain ⟨xs,n,_,_,hl,hx,hf⟩:=DataW.trod_struct Tryz.underlying27 h
  rw [cellsLine] at hl
  have hx3:xs.length=3:=hx
  have h0:DataW.trod enc Tryz.prog w 0 (fun _=>true) true n 3 ((cs.drop 0).take (Tryz.prog.cellsOf 3))=xs[0]?:=hf 0 _ rfl
  have h1:DataW.trod enc Tryz.prog w 0 (fun _=>true) true n 3 ((cs.drop 1).take (Tryz.prog.cellsOf 3))=xs[1]?:=hf 1 _ rfl
  have h2:DataW.trod enc Tryz.prog w 0 (fun _=>true) true n 9 ((cs.drop 2).take (Tryz.prog.cellsOf 9))=xs[2]?:=hf 2 _ rfl
  clear hf hx h
  obtain ⟨y0,e0⟩:=some_at hx3 0 (by omega)
  obtain ⟨y1,e1⟩:=some_at hx3 1 (by omega)
  obtain ⟨y2,e2⟩:=some_at hx3 2 (by omega)
  rw [e0,cellsInt] at h0
  rw [e1,cellsInt] at h1
  rw [e2,cellsStr] at h2
  obtain ⟨a,b,c,rfl⟩:=len3 hl
  obtain ⟨c0,e3,_⟩:=DataW.trod_int Tryz.underlying3 h0
  obtain ⟨t0,e4,_⟩:=DataW.trod_int Tryz.underlying3 h1
  obtain ⟨s0,e5,_⟩:=DataW.trod_string Tryz.underlying9 h2
  cases e3;cases e4;cases e5
  exact ⟨⟨c0,t0,s0.data.toList⟩,rfl⟩
theorem addr_of_cell {a:Addr} {v:Value} (h:w.cell? (a.add 0)=some v):a=⟨a.block,a.off,none⟩:=by
  obtain ⟨b,o,s⟩:=a
  cases s with
  | none=>rfl
  | some s =>
    have:w.cell? ((⟨b,o,some s⟩:Addr).add 0)=none:=by
      unfold World.cell? Addr.add
      split
      · simp
      · rfl
    rw [this] at h;cases h
theorem lines_open {fuel:Nat} {v:Value} {x:DataW X × List MemPlace} (h:DataW.trod enc Tryz.prog w 0 (fun _=>true) true fuel 28 [v]=some x) :
    ∃ (a:Option Addr) (c:Nat) (ls:List Ln),v=sla a ls.length c∧ls.length≤c∧LinesAt w a ls∧ls.length≤Rows.uptoBulk x.1:=by
  rcases open_slice Tryz.underlying28 h with ⟨e,rfl⟩ | ⟨a,len,cap,m,n,D,Pl,e,_,hlc,_,hm,rfl,hi⟩
  · cases e
    exact ⟨none,0,[],rfl,Nat.le_refl _,fun j hj=>absurd hj (by simp),by simp⟩
  · cases e
    simp only [if_true] at hm
    rw [cellsLine] at hi
    have hex:∀ i,i < len→∃ l:Ln,∀ r,r < 3→w.cell? (a.add (i * 3+r))=l.cells[r]?:=fun i hil=>by
      obtain ⟨cs,hc,ht⟩:=hi i (by omega)
      obtain ⟨l,rfl⟩:=line_open ht
      obtain ⟨_,_,hcell⟩:=World.cells?_some hc
      exact ⟨l,fun r hr=>by rw [← add_add];exact hcell r hr⟩
    have hin:Inhabited Ln:=⟨Ln.zero⟩
    obtain ⟨L,hL⟩:=choose_lt hex
    refine ⟨some a,cap,(List.range len).map L,by simp [sla],by simpa using hlc,fun j hj=>?_,?_⟩
    · have hj':j < len:=by simpa using hj
      have q:=hL 0 (by omega) 0 (by omega)
      have q0:=hL j hj' 0 (by omega)
      have q1:=hL j hj' 1 (by omega)
      have q2:=hL j hj' 2 (by omega)
      have ea:=addr_of_cell (v:=.int .i64 (L 0).c) q
      clear q
      generalize a.block=bb at ea
      generalize a.off=oo at ea
      subst ea
      rw [addr_add0] at q0 q1 q2
      refine ⟨bb,oo,rfl,?_⟩
      simp only [List.getElem_map,List.getElem_range]
      exact ⟨q0,by rw [Nat.add_assoc];exact q1,by rw [Nat.add_assoc];exact q2⟩
    · have:=bulk_slice ((List.range len).map D) ((List.range (m - len)).map fun j=>D (len+j))
      simpa using this
end
end
section
open Go.RowKit
structure Touch (T:Nat→Prop) (w w':World):Prop where
  os:w'.os=w.os
  tape:w'.tape=w.tape
  output:w'.output=w.output
  size:w.heap.size≤w'.heap.size
  block:∀ k,k < w.heap.size→¬ T k→w'.heap[k]?=w.heap[k]?
theorem Touch.refl (T:Nat→Prop) (w:World):Touch T w w:=⟨rfl,rfl,rfl,Nat.le_refl _,fun _ _ _=>rfl⟩
theorem Touch.trans {T T':Nat→Prop} {a b c:World} (h:Touch T a b) (k:Touch T' b c) (ht:∀ i,i < a.heap.size→T' i→T i):Touch T a c :=
  ⟨k.os.trans h.os,k.tape.trans h.tape,k.output.trans h.output,Nat.le_trans h.size k.size,
    fun i hi hn=>(k.block i (Nat.lt_of_lt_of_le hi h.size) (fun e=>hn (ht i hi e))).trans (h.block i hi hn)⟩
theorem Touch.mono {T T':Nat→Prop} {a b:World} (h:Touch T a b) (ht:∀ i,i < a.heap.size→T i→T' i):Touch T' a b :=
  ⟨h.os,h.tape,h.output,h.size,fun i hi hn=>h.block i hi (fun e=>hn (ht i hi e))⟩
theorem Touch.drew {T:Nat→Prop} {a w:World} (h:Touch T a w):Touch T a w.drew:=⟨h.os,h.tape,h.output,h.size,h.block⟩
theorem Touch.alloc {T:Nat→Prop} {a w:World} (h:Touch T a w) (o:Obj):Touch T a (w.alloc o) :=
  h.trans (T':=T) ⟨rfl,rfl,rfl,by simp,fun k hk _=>Below.heap_alloc _ _ _ (by omega)⟩ (fun _ _ e=>e)
theorem Touch.setCell {T:Nat→Prop} {a w:World} (h:Touch T a w) {p:Addr} (hp:p.block < a.heap.size→T p.block) (u:Value):Touch T a (w.setCell p u) :=
  h.trans (T':=fun k=>k=p.block) ⟨rfl,rfl,rfl,by simp [World.setCell],fun k hk hn=>Below.heap_setCell _ _ _ _ hn⟩ (fun i hi e=>by subst e;exact hp hi)
theorem Touch.below {T:Nat→Prop} {w w':World} (h:Touch T w w') {B:Nat} (hB:B≤w.heap.size) (ht:∀ k,k < w.heap.size→T k→B≤k):Below B w w' :=
  ⟨h.os,h.tape,h.output,h.size,fun k hk=>h.block k (by omega) (fun e=>by have:=ht k (by omega) e;omega)⟩
theorem Touch.of_belowAll {w w':World} (h:Below w.heap.size w w') (T:Nat→Prop):Touch T w w':=⟨h.os,h.tape,h.output,h.size,fun k hk _=>h.block k hk⟩
theorem Touch.heapAt {T:Nat→Prop} {w w':World} (h:Touch T w w') {k:Nat} {o:Obj} (e:w.heap[k]?=some o) (hn:¬ T k):w'.heap[k]?=some o:=by
  rw [h.block k (by rcases Nat.lt_or_ge k w.heap.size with h | h;exact h;rw [Array.getElem?_eq_none h] at e;cases e) hn];exact e
theorem Touch.cell {T:Nat→Prop} {w w':World} (h:Touch T w w') {a:Addr} {v:Value} (e:w.cell? a=some v) (hn:¬ T a.block):w'.cell? a=some v :=
  (World.cell?_of_block (h.block a.block (World.block_lt_of_cell? w a e) hn)).trans e
theorem heap_lt {w:World} {k:Nat} {o:Obj} (e:w.heap[k]?=some o):k < w.heap.size:=by
  rcases Nat.lt_or_ge k w.heap.size with h | h
  · exact h
  · rw [Array.getElem?_eq_none h] at e;cases e
theorem cell_of_heap {w:World} {g:Nat} {cur:Array Value} {e:TypeId} {f:Nat × Nat} (h:w.heap[g]?=some (.cells cur e f)) (j:Nat):w.cell? ⟨g,j,none⟩=cur[j]?:=by simp [World.cell?,h]
theorem frozen_of_heap {w:World} {g:Nat} {cur:Array Value} {e:TypeId} (h:w.heap[g]?=some (.cells cur e (0,0))) (j:Nat):w.frozen? ⟨g,j,none⟩=false:=by simp [World.frozen?,h]
theorem heap_setCell {w:World} {g:Nat} {cur:Array Value} {e:TypeId} {f:Nat × Nat} (h:w.heap[g]?=some (.cells cur e f)) (j:Nat) (v:Value) :
    (w.setCell ⟨g,j,none⟩ v).heap[g]?=some (.cells (cur.setIfInBounds j v) e f):=by
  simp [World.setCell,Array.getElem?_modify,h]
def OwnRow (w:World) (e:TypeId) (size:Nat) (b:Option Nat) (n c:Nat):Prop :=
  (b=none∧n=0∧c=0)∨∃ g cur,b=some g∧w.heap[g]?=some (.cells cur e (0,0))∧cur.size=c * size∧n≤c∧c≤maxLen
theorem OwnRow.touch {T:Nat→Prop} {w w':World} {e:TypeId} {size:Nat} {b:Option Nat} {n c:Nat} (h:OwnRow w e size b n c) (ht:Touch T w w') (hn:∀ g,b=some g→¬ T g):OwnRow w' e size b n c:=by
  rcases h with h | ⟨g,cur,rfl,h1,h2⟩
  · exact .inl h
  · exact .inr ⟨g,cur,rfl,ht.heapAt h1 (hn g rfl),h2⟩
structure Cur (w:World) (h:HG):Prop where
  hp:w.heap[h.p]?=some (.cells #[sl h.b h.bn h.bc,sl h.l h.ln h.lc,sl h.o h.on h.oc,.int .i64 h.m] 126 (0,0))
  rb:OwnRow w 5 1 h.b h.bn h.bc
  rl:OwnRow w 27 3 h.l h.ln h.lc
  ro:OwnRow w 71 3 h.o h.on h.oc
  pb:h.b≠some h.p
  pl:h.l≠some h.p
  po:h.o≠some h.p
  bl:∀ g,h.b=some g→h.l≠some g
  bo:∀ g,h.b=some g→h.o≠some g
  lo:∀ g,h.l=some g→h.o≠some g
theorem Cur.touch {T:Nat→Prop} {w w':World} {h:HG} (hc:Cur w h) (ht:Touch T w w') (np:¬ T h.p) (nb:∀ g,h.b=some g→¬ T g) (nl:∀ g,h.l=some g→¬ T g) (no:∀ g,h.o=some g→¬ T g):Cur w' h :=
  ⟨ht.heapAt hc.hp np,hc.rb.touch ht nb,hc.rl.touch ht nl,hc.ro.touch ht no,hc.pb,hc.pl,hc.po,hc.bl,hc.bo,hc.lo⟩
end
section
open Go.RowKit
attribute [local go_sem ↓] Go.wp_at_zero Go.wp_at_succ
def HG.rows (h:HG) (k:Nat):Prop:=h.b=some k∨h.l=some k∨h.o=some k
theorem OwnRow.set {w:World} {e:TypeId} {size:Nat} {g n c:Nat} (h:OwnRow w e size (some g) n c) (j:Nat) (v:Value):OwnRow (w.setCell ⟨g,j,none⟩ v) e size (some g) n c:=by
  rcases h with ⟨h,_⟩ | ⟨g',cur,e1,h1,h2,h3⟩
  · cases h
  · cases e1
    exact .inr ⟨g,_,rfl,heap_setCell h1 j v,by simpa using h2,h3⟩
theorem OwnRow.drew {w:World} {e:TypeId} {size:Nat} {b:Option Nat} {n c:Nat} (h:OwnRow w e size b n c):OwnRow w.drew e size b n c:=h
theorem OwnRow.alloc {w:World} {e:TypeId} {size:Nat} {b:Option Nat} {n c:Nat} (h:OwnRow w e size b n c) (o:Obj):OwnRow (w.alloc o) e size b n c :=
  h.touch (T:=fun _=>False) ((Touch.refl _ w).alloc o) (fun _ _ e=>e)
theorem cell_set_same {w:World} {g j:Nat} {u:Value} (v:Value) (h:w.cell? ⟨g,j,none⟩=some u):(w.setCell ⟨g,j,none⟩ v).cell? ⟨g,j,none⟩=some v:=World.cell?_setCell_same _ _ _ h
theorem cell_set_ne {w:World} {g j g' j':Nat} (v:Value) (h:g≠g'∨j≠j'):(w.setCell ⟨g,j,none⟩ v).cell? ⟨g',j',none⟩=w.cell? ⟨g',j',none⟩ :=
  World.cell?_setCell_other _ _ _ _ (by intro e;cases e;rcases h with h | h <;> exact h rfl)
theorem stepB {w wr:World} {g k bn bc m:Nat} (hk:k < bn) (hown:OwnRow wr 5 1 (some g) bn bc) {u:Value} (dg:wr.cell? ⟨g,k,none⟩=some u)
    (hd:∀ j,j < k→∃ g',some g=some g'∧wr.cell? ⟨g',j,none⟩=some (.int .u8 (sg m j))) (ht:Touch (fun i=>some g=some i) w wr) :
    OwnRow (wr.setCell ⟨g,k,none⟩ (.int .u8 (sg m k))).drew 5 1 (some g) bn bc ∧
    (∀ j,j < k+1→∃ g',some g=some g'∧(wr.setCell ⟨g,k,none⟩ (.int .u8 (sg m k))).drew.cell? ⟨g',j,none⟩=some (.int .u8 (sg m j))) ∧
    Touch (fun i=>some g=some i) w (wr.setCell ⟨g,k,none⟩ (.int .u8 (sg m k))).drew:=by
  refine ⟨(hown.set k _).drew,fun j hj=>⟨g,rfl,?_⟩,(ht.setCell (fun _=>rfl) _).drew⟩
  show (wr.setCell ⟨g,k,none⟩ (.int .u8 (sg m k))).cell? ⟨g,j,none⟩=_
  by_cases e:j=k
  · subst e;exact cell_set_same _ dg
  · obtain ⟨g',e',hc⟩:=hd j (by omega)
    cases e'
    rw [cell_set_ne _ (by omega)];exact hc
theorem ownRow_cell {w:World} {e:TypeId} {size:Nat} {g n c j:Nat} (h:OwnRow w e size (some g) n c) (hj:j < n * size):∃ v,w.cell? ⟨g,j,none⟩=some v∧w.frozen? ⟨g,j,none⟩=false:=by
  rcases h with ⟨h,_⟩ | ⟨g',cur,e1,h1,h2,h3,_⟩
  · cases h
  · cases e1
    have:j < cur.size:=by have:=Nat.mul_le_mul_right size h3;omega
    exact ⟨cur[j],by rw [cell_of_heap h1,Array.getElem?_eq_getElem this],frozen_of_heap h1 j⟩
theorem ownRow_some {w:World} {e:TypeId} {size:Nat} {b:Option Nat} {n c k:Nat} (h:OwnRow w e size b n c) (hk:k < n):∃ g,b=some g:=by
  rcases h with ⟨_,h,_⟩ | ⟨g',cur,e1,h1,h2,h3⟩
  · omega
  · exact ⟨g',e1⟩
def set3 (w:World) (g o:Nat) (a b c:Value):World:=((w.setCell ⟨g,o,none⟩ a).setCell ⟨g,o+1,none⟩ b).setCell ⟨g,o+2,none⟩ c
theorem set3_ne {w:World} {g o g' j:Nat} {a b c:Value} (h:g≠g'∨j < o∨o+2 < j):(set3 w g o a b c).cell? ⟨g',j,none⟩=w.cell? ⟨g',j,none⟩:=by
  unfold set3
  rw [cell_set_ne _ (by omega),cell_set_ne _ (by omega),cell_set_ne _ (by omega)]
theorem set3_at {w:World} {g o:Nat} {a b c u0 u1 u2:Value} (h0:w.cell? ⟨g,o,none⟩=some u0) (h1:w.cell? ⟨g,o+1,none⟩=some u1) (h2:w.cell? ⟨g,o+2,none⟩=some u2) :
    (set3 w g o a b c).cell? ⟨g,o,none⟩=some a∧(set3 w g o a b c).cell? ⟨g,o+1,none⟩=some b∧(set3 w g o a b c).cell? ⟨g,o+2,none⟩=some c:=by
  unfold set3
  refine ⟨?_,?_,?_⟩
  · rw [cell_set_ne _ (by omega),cell_set_ne _ (by omega)];exact cell_set_same _ h0
  · rw [cell_set_ne _ (by omega)];exact cell_set_same _ (by rw [cell_set_ne _ (by omega)];exact h1)
  · exact cell_set_same _ (by rw [cell_set_ne _ (by omega),cell_set_ne _ (by omega)];exact h2)
theorem OwnRow.set3 {w:World} {e:TypeId} {size:Nat} {g n c:Nat} (h:OwnRow w e size (some g) n c) (j:Nat) (x y z:Value):OwnRow (set3 w g j x y z) e size (some g) n c:=((h.set _ _).set _ _).set _ _
theorem Touch.set3 {T:Nat→Prop} {a w:World} {g:Nat} (h:Touch T a w) (hp:g < a.heap.size→T g) (j:Nat) (x y z:Value):Touch T a (set3 w g j x y z) :=
  ((h.setCell (p:=⟨g,j,none⟩) hp _).setCell (p:=⟨g,j+1,none⟩) hp _).setCell (p:=⟨g,j+2,none⟩) hp _
theorem set3_size (w:World) (g o:Nat) (a b c:Value):(set3 w g o a b c).heap.size=w.heap.size:=by simp [set3,World.setCell]
theorem stepL {w wr:World} {g k ln lc m:Nat} (hk:k < ln) (hown:OwnRow wr 27 3 (some g) ln lc)
    (hd:∀ j,j < k→∃ g',some g=some g'∧wr.cell? ⟨g',j * 3,none⟩=some (.int .i64 77)∧wr.cell? ⟨g',j * 3+1,none⟩=some (.int .i64 m)∧wr.cell? ⟨g',j * 3+2,none⟩=some (.string ⟨#[]⟩))
    (ht:Touch (fun i=>some g=some i) w wr) :
    OwnRow (set3 wr g (k * 3) (.int .i64 77) (.int .i64 m) (.string ⟨#[]⟩)).drew 27 3 (some g) ln lc ∧
    (∀ j,j < k+1→∃ g',some g=some g'∧(set3 wr g (k * 3) (.int .i64 77) (.int .i64 m) (.string ⟨#[]⟩)).drew.cell? ⟨g',j * 3,none⟩=some (.int .i64 77) ∧
      (set3 wr g (k * 3) (.int .i64 77) (.int .i64 m) (.string ⟨#[]⟩)).drew.cell? ⟨g',j * 3+1,none⟩=some (.int .i64 m)∧(set3 wr g (k * 3) (.int .i64 77) (.int .i64 m) (.string ⟨#[]⟩)).drew.cell? ⟨g',j * 3+2,none⟩=some (.string ⟨#[]⟩)) ∧
    Touch (fun i=>some g=some i) w (set3 wr g (k * 3) (.int .i64 77) (.int .i64 m) (.string ⟨#[]⟩)).drew:=by
  refine ⟨(hown.set3 _ _ _ _).drew,fun j hj=>⟨g,rfl,?_⟩,(ht.set3 (fun _=>rfl) _ _ _ _).drew⟩
  simp only [World.cell?_drew]
  by_cases e:j=k
  · subst e
    obtain ⟨u0,a0,_⟩:=ownRow_cell (j:=j * 3) hown (by omega)
    obtain ⟨u1,a1,_⟩:=ownRow_cell (j:=j * 3+1) hown (by omega)
    obtain ⟨u2,a2,_⟩:=ownRow_cell (j:=j * 3+2) hown (by omega)
    exact set3_at a0 a1 a2
  · obtain ⟨g',e',h0,h1,h2⟩:=hd j (by omega)
    cases e'
    rw [set3_ne (by omega),set3_ne (by omega),set3_ne (by omega)]
    exact ⟨h0,h1,h2⟩
theorem stepO {wb wr:World} {g k on oc m:Nat} {q:Nat→Nat} (hk:k < on) (hown:OwnRow wr 71 3 (some g) on oc)
    (hd:∀ j,j < k→wb.heap.size≤q j∧∃ g' c,some g=some g'∧wr.cell? ⟨g',j * 3,none⟩=some (.bool false)∧wr.cell? ⟨g',j * 3+1,none⟩=some (.int .i64 m)∧wr.cell? ⟨g',j * 3+2,none⟩=some (.slice (some ⟨q j,0,none⟩) 1 c)∧wr.cell? ⟨q j,0,none⟩=some (.int .u8 ((m:Int) % 256)))
    (ht:Touch (fun i=>some g=some i) wb wr) (hgb:g < wb.heap.size) (w2:World)
    (hw2:w2=((set3 wr g (k * 3) (.bool false) (.int .i64 m) (.slice (some ⟨wr.heap.size,0,none⟩) 1 1)).alloc (.cells #[.int .u8 ((m:Int) % 256)] 5)).drew) :
    OwnRow w2 71 3 (some g) on oc ∧
    (∀ j,j < k+1→wb.heap.size≤(if j=k then wr.heap.size else q j)∧∃ g' c,some g=some g'∧w2.cell? ⟨g',j * 3,none⟩=some (.bool false) ∧
      w2.cell? ⟨g',j * 3+1,none⟩=some (.int .i64 m)∧w2.cell? ⟨g',j * 3+2,none⟩=some (.slice (some ⟨if j=k then wr.heap.size else q j,0,none⟩) 1 c)∧w2.cell? ⟨if j=k then wr.heap.size else q j,0,none⟩=some (.int .u8 ((m:Int) % 256))) ∧
    Touch (fun i=>some g=some i) wb w2:=by
  subst hw2
  have hs3:=set3_size wr g (k * 3) (.bool false) (.int .i64 m) (.slice (some ⟨wr.heap.size,0,none⟩) 1 1)
  refine ⟨((hown.set3 _ _ _ _).alloc _).drew,fun j hj=>?_,((ht.set3 (fun _=>rfl) _ _ _ _).alloc _).drew⟩
  simp only [World.cell?_drew]
  have hgr:g < wr.heap.size:=Nat.lt_of_lt_of_le hgb ht.size
  have old:∀ (b o:Nat),b < wr.heap.size→((set3 wr g (k * 3) (.bool false) (.int .i64 m) (.slice (some ⟨wr.heap.size,0,none⟩) 1 1)).alloc (.cells #[.int .u8 ((m:Int) % 256)] 5)).cell? ⟨b,o,none⟩=(set3 wr g (k * 3) (.bool false) (.int .i64 m) (.slice (some ⟨wr.heap.size,0,none⟩) 1 1)).cell? ⟨b,o,none⟩ :=
    fun b o hb=>World.cell?_alloc_past _ _ _ (by omega)
  by_cases e:j=k
  · subst e
    obtain ⟨u0,a0,_⟩:=ownRow_cell (j:=j * 3) hown (by omega)
    obtain ⟨u1,a1,_⟩:=ownRow_cell (j:=j * 3+1) hown (by omega)
    obtain ⟨u2,a2,_⟩:=ownRow_cell (j:=j * 3+2) hown (by omega)
    obtain ⟨b0,b1,b2⟩:=set3_at (a:=.bool false) (b:=.int .i64 m) (c:=.slice (some ⟨wr.heap.size,0,none⟩) 1 1) a0 a1 a2
    simp only [if_true]
    refine ⟨ht.size,g,1,rfl,by rw [old _ _ hgr];exact b0,by rw [old _ _ hgr];exact b1,by rw [old _ _ hgr];exact b2,?_⟩
    rw [World.cell?_alloc_at _ _ _ _ hs3.symm];rfl
  · obtain ⟨hq,g',c,e',h0,h1,h2,h3⟩:=hd j (by omega)
    cases e'
    simp only [if_neg e]
    have hqs:=World.block_lt_of_cell? _ _ h3
    dsimp only at hqs
    refine ⟨hq,g,c,rfl,?_,?_,?_,?_⟩
    · rw [old _ _ hgr,set3_ne (by omega)];exact h0
    · rw [old _ _ hgr,set3_ne (by omega)];exact h1
    · rw [old _ _ hgr,set3_ne (by omega)];exact h2
    · rw [old _ _ hqs,set3_ne (by omega)];exact h3
theorem marks_end {w wa wb wc:World} {p bn bc ln lc on oc m:Nat} {b l o:Option Nat} {qf q:Nat→Nat}
    (h:Cur w ⟨p,b,bn,bc,l,ln,lc,o,on,oc,qf,m⟩)
    (oa:OwnRow wa 5 1 b bn bc) (da:∀ j,j < bn→∃ g,b=some g∧wa.cell? ⟨g,j,none⟩=some (.int .u8 (sg m j))) (ta:Touch (fun i=>b=some i) w wa)
    (ob:OwnRow wb 27 3 l ln lc)
    (db:∀ j,j < ln→∃ g,l=some g∧wb.cell? ⟨g,j * 3,none⟩=some (.int .i64 77)∧wb.cell? ⟨g,j * 3+1,none⟩=some (.int .i64 m)∧wb.cell? ⟨g,j * 3+2,none⟩=some (.string ⟨#[]⟩)) (tb:Touch (fun i=>l=some i) wa wb)
    (oc':OwnRow wc 71 3 o on oc)
    (dc:∀ j,j < on→wb.heap.size≤q j∧∃ g c,o=some g∧wc.cell? ⟨g,j * 3,none⟩=some (.bool false)∧wc.cell? ⟨g,j * 3+1,none⟩=some (.int .i64 m)∧wc.cell? ⟨g,j * 3+2,none⟩=some (.slice (some ⟨q j,0,none⟩) 1 c)∧wc.cell? ⟨q j,0,none⟩=some (.int .u8 ((m:Int) % 256)))
    (tc:Touch (fun i=>o=some i) wb wc) :
    Cur wc ⟨p,b,bn,bc,l,ln,lc,o,on,oc,q,m⟩∧HoldIs wc ⟨p,b,bn,bc,l,ln,lc,o,on,oc,q,m⟩∧(∀ j,j < on→w.heap.size≤q j)∧Touch (HG.rows ⟨p,b,bn,bc,l,ln,lc,o,on,oc,qf,m⟩) w wc:=by
  obtain ⟨hp,rb,rl,ro,pb,pl,po,bl,bo,lo⟩:=h
  dsimp only at *
  have hpc:=tc.heapAt (tb.heapAt (ta.heapAt hp pb) pl) po
  refine ⟨⟨hpc,?_,?_,oc',pb,pl,po,bl,bo,lo⟩,⟨by rw [cell_of_heap hpc];rfl,by rw [cell_of_heap hpc];rfl,by rw [cell_of_heap hpc];rfl,by rw [cell_of_heap hpc];rfl,?_,?_,fun j hj=>(dc j hj).2⟩,fun j hj=>?_,?_⟩
  · exact (oa.touch tb (fun g e1 e2=>bl g e1 e2)).touch tc (fun g e1 e2=>bo g e1 e2)
  · exact ob.touch tc (fun g e1 e2=>lo g e1 e2)
  · intro j hj
    obtain ⟨g,e,hc⟩:=da j hj
    exact ⟨g,e,tc.cell (tb.cell hc (fun e2=>bl g e e2)) (fun e2=>bo g e e2)⟩
  · intro j hj
    obtain ⟨g,e,h0,h1,h2⟩:=db j hj
    exact ⟨g,e,tc.cell h0 (fun e2=>lo g e e2),tc.cell h1 (fun e2=>lo g e e2),tc.cell h2 (fun e2=>lo g e e2)⟩
  · have:=(dc j hj).1;have:=ta.size;have:=tb.size;omega
  · exact (ta.mono (fun _ _ e=>.inl e)).trans ((tb.mono (T':=fun i=>l=some i∨o=some i) (fun _ _ e=>.inl e)).trans tc (fun _ _ e=>.inr e)) (fun _ _ e=>.inr e)
theorem marks_any (h:HG) (w:World) (hh:Cur w h) (hm:h.m≤100000000) (h1:h.bn≤100000000) (h2:h.ln≤100000000) (h3:h.on≤100000000) :
    Calls Tryz.prog 100 #[.pointer (some ⟨h.p,0,none⟩)] w fun e w'=>e=.returned (.tuple #[])∧∃ q:Nat→Nat,Cur w' { h with q:=q }∧HoldIs w' { h with q:=q }∧(∀ j,j < h.on→w.heap.size≤q j)∧Touch h.rows w w':=by
  obtain ⟨p,b,bn,bc,l,ln,lc,o,on,oc,qf,m⟩:=h
  have c0:=(cell_of_heap hh.hp 0)
  have c1:=(cell_of_heap hh.hp 1)
  have c2:=(cell_of_heap hh.hp 2)
  have c3:=(cell_of_heap hh.hp 3)
  simp only [List.getElem?_toArray,List.getElem?_cons_zero,List.getElem?_cons_succ] at c0 c1 c2 c3
  have HH:Hid _:=hh
  obtain ⟨hp,rb,rl,ro,pb,pl,po,bl,bo,lo⟩:=hh
  dsimp only at *
  have HB:Hid (OwnRow w 5 1 b bn bc):=rb
  have HPB:Hid (b≠some p):=pb
  unfold sl at c0 c1 c2
  have HP:=hp
  replace HP:Hid (w.heap[p]?=some _):=hp
  have HL:Hid (OwnRow w 27 3 l ln lc):=rl
  have HO:Hid (OwnRow w 71 3 o on oc):=ro
  have HPL:Hid (l≠some p):=pl
  have HPO:Hid (o≠some p):=po
  have HBL:Hid (∀ g,b=some g→l≠some g):=bl
  have HBO:Hid (∀ g,b=some g→o≠some g):=bo
  have HLO:Hid (∀ g,l=some g→o≠some g):=lo
  clear hp pb rb rl ro pl po bl bo lo
  go_enter Tryz.func100,Tryz.ntmps100
  go_wp2
  go_loopw [2] (fun i wr=>∃ k:Nat,k≤bn∧i=.int .i64 k∧OwnRow wr 5 1 b bn bc∧(∀ j,j < k→∃ g,b=some g∧wr.cell? ⟨g,j,none⟩=some (.int .u8 (sg m j)))∧Touch (fun i=>b=some i) w wr) (fun i _=>bn - (intOf i).toNat)
  case atStart=>exact ⟨0,Nat.zero_le _,rfl,HB.out,fun j hj=>absurd hj (by omega),Touch.refl _ _⟩
  case round =>
    obtain ⟨k,hk,rfl,hown,hdone,ht⟩:=hrel
    have d0:wr.cell? ⟨p,0,none⟩=_:=ht.cell c0 HPB.out
    have d3:wr.cell? ⟨p,3,none⟩=_:=ht.cell c3 HPB.out
    by_cases hlt:k < bn
    · obtain ⟨g,rfl⟩:=ownRow_some hown hlt
      obtain ⟨v0,dg,df⟩:=ownRow_cell (j:=k) hown (by omega)
      have hgp:¬ g=p:=fun e=>HPB.out (by rw [e])
      have R:Hid _:=stepB hlt hown dg hdone ht
      clear hdone ht
      go_wp2
      go_region_held (fun w'=>w'.cell? ⟨p,0,none⟩=some (.slice (some ⟨g,0,none⟩) bn bc)∧w'.cell? ⟨p,3,none⟩=some (.int .i64 m)) (go_keep) (first | (go_at_call 112;refine (sign_any m k _ hm (by omega)).mono ?_;rintro e w' ⟨rfl,rfl⟩))
      go_wp2
      go_roundw
      case rel=>exact ⟨k+1,by omega,by go_num,R.out⟩
      case measure=>simp [intOf];omega
    · have e1:k=bn:=by omega
      subst e1
      have HO1':Hid _:=hown
      have HD1:Hid _:=hdone
      have HT1:Hid _:=ht
      have f1:wr.cell? ⟨p,1,none⟩=_:=ht.cell c1 HPB.out
      have f2:wr.cell? ⟨p,2,none⟩=_:=ht.cell c2 HPB.out
      have HL1:Hid (OwnRow wr 27 3 l ln lc):=HL.out.touch ht (fun g e1 e2=>HBL.out g e2 e1)
      clear hown hdone ht
      go_wp2
      rename World=>wa
      go_loopw [3] (fun i wq=>∃ k2:Nat,k2≤ln∧i=.int .i64 k2∧OwnRow wq 27 3 l ln lc ∧
          (∀ j,j < k2→∃ g,l=some g∧wq.cell? ⟨g,j * 3,none⟩=some (.int .i64 77)∧wq.cell? ⟨g,j * 3+1,none⟩=some (.int .i64 m)∧wq.cell? ⟨g,j * 3+2,none⟩=some (.string ⟨#[]⟩))∧Touch (fun i=>l=some i) wa wq) (fun i _=>ln - (intOf i).toNat)
      case atStart=>exact ⟨0,Nat.zero_le _,rfl,HL1.out,fun j hj=>absurd hj (by omega),Touch.refl _ _⟩
      case round =>
        obtain ⟨k2,hk2,rfl,hown,hdone,ht⟩:=hrel
        have x1:wr.cell? ⟨p,1,none⟩=_:=ht.cell f1 HPL.out
        have x3:wr.cell? ⟨p,3,none⟩=_:=ht.cell d3 HPL.out
        by_cases hlt2:k2 < ln
        · obtain ⟨g,rfl⟩:=ownRow_some hown hlt2
          obtain ⟨v0,dg,df⟩:=ownRow_cell (j:=k2 * 3) hown (by omega)
          obtain ⟨v1,dg1,df1⟩:=ownRow_cell (j:=k2 * 3+1) hown (by omega)
          obtain ⟨v2,dg2,df2⟩:=ownRow_cell (j:=k2 * 3+2) hown (by omega)
          have hgp:¬ g=p:=fun e=>HPL.out (by rw [e])
          have R:Hid _:=stepL hlt2 hown hdone ht
          clear hdone ht hown
          go_wp2
          go_region_held (fun w'=>w'.cell? ⟨p,1,none⟩=some (.slice (some ⟨g,0,none⟩) ln lc)∧w'.cell? ⟨p,3,none⟩=some (.int .i64 m)) (go_keep) (fail)
          go_wp2
          go_roundw
          case rel=>exact ⟨k2+1,by omega,by go_num,R.out⟩
          case measure=>simp [intOf];omega
        · have e2:k2=ln:=by omega
          subst e2
          have HO2:Hid _:=hown
          have HD2:Hid _:=hdone
          have HT2:Hid _:=ht
          have y2:wr.cell? ⟨p,2,none⟩=_:=ht.cell f2 HPL.out
          have HO1:Hid (OwnRow wr 71 3 o on oc):=(HO.out.touch HT1.out (fun g e1 e2=>HBO.out g e2 e1)).touch ht (fun g e1 e2=>HLO.out g e2 e1)
          clear hown hdone ht
          go_wp2
          rename World=>wb
          go_loopw [4] (fun i wq=>∃ (k3:Nat) (q:Nat→Nat),k3≤on∧i=.int .i64 k3∧OwnRow wq 71 3 o on oc ∧
              (∀ j,j < k3→wb.heap.size≤q j∧∃ g c,o=some g∧wq.cell? ⟨g,j * 3,none⟩=some (.bool false)∧wq.cell? ⟨g,j * 3+1,none⟩=some (.int .i64 m)∧wq.cell? ⟨g,j * 3+2,none⟩=some (.slice (some ⟨q j,0,none⟩) 1 c)∧wq.cell? ⟨q j,0,none⟩=some (.int .u8 ((m:Int) % 256)))∧Touch (fun i=>o=some i) wb wq) (fun i _=>on - (intOf i).toNat)
          case atStart=>exact ⟨0,fun _=>0,Nat.zero_le _,rfl,HO1.out,fun j hj=>absurd hj (by omega),Touch.refl _ _⟩
          case round =>
            obtain ⟨k3,q,hk3,rfl,hown,hdone,ht⟩:=hrel
            have z2:wr.cell? ⟨p,2,none⟩=_:=ht.cell y2 HPO.out
            have z3:wr.cell? ⟨p,3,none⟩=_:=ht.cell x3 HPO.out
            by_cases hlt3:k3 < on
            · obtain ⟨g,rfl⟩:=ownRow_some hown hlt3
              obtain ⟨v0,dg,df⟩:=ownRow_cell (j:=k3 * 3) hown (by omega)
              obtain ⟨v1,dg1,df1⟩:=ownRow_cell (j:=k3 * 3+1) hown (by omega)
              obtain ⟨v2,dg2,df2⟩:=ownRow_cell (j:=k3 * 3+2) hown (by omega)
              have hgp:¬ g=p:=fun e=>HPO.out (by rw [e])
              have hps:p < wr.heap.size:=World.block_lt_of_cell? _ _ z3
              have hgs:g < wr.heap.size:=World.block_lt_of_cell? _ _ dg
              have hgb:g < wb.heap.size:=by
                obtain ⟨v5,e5,_⟩:=ownRow_cell (j:=0) HO1.out (by omega)
                exact World.block_lt_of_cell? _ _ e5
              have R:Hid _:=stepO hlt3 hown hdone ht hgb _ rfl
              clear hdone ht hown
              go_wp2
              go_region_held (fun w'=>w'.cell? ⟨p,2,none⟩=some (.slice (some ⟨g,0,none⟩) on oc)∧w'.cell? ⟨p,3,none⟩=some (.int .i64 m)) (go_keep) (fail)
              go_wp2
              go_roundw
              case rel=>exact ⟨k3+1,_,by omega,by go_num,R.out⟩
              case measure=>simp [intOf];omega
            · have e3:k3=on:=by omega
              subst e3
              have HO3:Hid _:=hown
              have HD3:Hid _:=hdone
              have HT3:Hid _:=ht
              clear hown hdone ht
              go_wp2
              go_end0
              exact ⟨rfl,q,marks_end HH.out HO1'.out HD1.out HT1.out HO2.out HD2.out HT2.out HO3.out HD3.out HT3.out⟩
end
end Go.Proofs.YtolififimldmlaaGreat
