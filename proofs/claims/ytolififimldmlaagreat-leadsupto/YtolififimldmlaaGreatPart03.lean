import Derived.Test.YtolififimldmlaaGreatPart02
set_option linter.unusedVariables false
set_option linter.unusedSimpArgs false
set_option maxRecDepth 100000
set_option maxHeartbeats 16000000
namespace Go.Proofs.YtolififimldmlaaGreat
section
open Go.RowKit
attribute [local go_sem ↓] Go.wp_at_zero Go.wp_at_succ
def HG.rows (h:HG) (k:Nat):Prop:=h.b=some k∨h.l=some k∨h.o=some k
theorem OwnRow.set {w:World} {e:TypeId} {size:Nat} {g n c:Nat} (h:OwnRow w e size (some g) n c) (j:Nat) (v:Value):OwnRow (w.setCell ⟨g,j,none⟩ v) e size (some g) n c:=by
  rcases h with ⟨h,_⟩ | ⟨g',cur,e1,h1,h2,h3⟩
  · cases h
  · cases e1
    exact .inr ⟨g,_,rfl,heap_setCell h1 j v,by simpa using h2,h3⟩
theorem OwnRow.drew {w:World} {e:TypeId} {size:Nat} {b:Option Nat} {n c:Nat} (h:OwnRow w e size b n c):OwnRow w.drew e size b n c:=h
theorem OwnRow.alloc {w:World} {e:TypeId} {size:Nat} {b:Option Nat} {n c:Nat} (h:OwnRow w e size b n c) (o:Obj):OwnRow (w.alloc o) e size b n c :=
  h.touch (T:=fun _=>False) ((Touch.refl _ w).alloc o) (fun _ _ e=>e)
theorem cell_set_same {w:World} {g j:Nat} {u:Value} (v:Value) (h:w.cell? ⟨g,j,none⟩=some u):(w.setCell ⟨g,j,none⟩ v).cell? ⟨g,j,none⟩=some v:=World.cell?_setCell_same _ _ _ h
theorem cell_set_ne {w:World} {g j g' j':Nat} (v:Value) (h:g≠g'∨j≠j'):(w.setCell ⟨g,j,none⟩ v).cell? ⟨g',j',none⟩=w.cell? ⟨g',j',none⟩ :=
  World.cell?_setCell_other _ _ _ _ (by intro e;cases e;rcases h with h | h <;> exact h rfl)
theorem stepB {w wr:World} {g k bn bc m:Nat} (hk:k < bn) (hown:OwnRow wr 5 1 (some g) bn bc) {u:Value} (dg:wr.cell? ⟨g,k,none⟩=some u)
    (hd:∀ j,j < k→∃ g',some g=some g'∧wr.cell? ⟨g',j,none⟩=some (.int .u8 (sg m j))) (ht:Touch (fun i=>some g=some i) w wr) :
    OwnRow (wr.setCell ⟨g,k,none⟩ (.int .u8 (sg m k))).drew 5 1 (some g) bn bc ∧
    (∀ j,j < k+1→∃ g',some g=some g'∧(wr.setCell ⟨g,k,none⟩ (.int .u8 (sg m k))).drew.cell? ⟨g',j,none⟩=some (.int .u8 (sg m j))) ∧
    Touch (fun i=>some g=some i) w (wr.setCell ⟨g,k,none⟩ (.int .u8 (sg m k))).drew:=by
  refine ⟨(hown.set k _).drew,fun j hj=>⟨g,rfl,?_⟩,(ht.setCell (fun _=>rfl) _).drew⟩
  show (wr.setCell ⟨g,k,none⟩ (.int .u8 (sg m k))).cell? ⟨g,j,none⟩=_
  by_cases e:j=k
  · subst e;exact cell_set_same _ dg
  · obtain ⟨g',e',hc⟩:=hd j (by omega)
    cases e'
    rw [cell_set_ne _ (by omega)];exact hc
theorem ownRow_cell {w:World} {e:TypeId} {size:Nat} {g n c j:Nat} (h:OwnRow w e size (some g) n c) (hj:j < n * size):∃ v,w.cell? ⟨g,j,none⟩=some v∧w.frozen? ⟨g,j,none⟩=false:=by
  rcases h with ⟨h,_⟩ | ⟨g',cur,e1,h1,h2,h3,_⟩
  · cases h
  · cases e1
    have:j < cur.size:=by have:=Nat.mul_le_mul_right size h3;omega
    exact ⟨cur[j],by rw [cell_of_heap h1,Array.getElem?_eq_getElem this],frozen_of_heap h1 j⟩
theorem ownRow_some {w:World} {e:TypeId} {size:Nat} {b:Option Nat} {n c k:Nat} (h:OwnRow w e size b n c) (hk:k < n):∃ g,b=some g:=by
  rcases h with ⟨_,h,_⟩ | ⟨g',cur,e1,h1,h2,h3⟩
  · omega
  · exact ⟨g',e1⟩
def set3 (w:World) (g o:Nat) (a b c:Value):World:=((w.setCell ⟨g,o,none⟩ a).setCell ⟨g,o+1,none⟩ b).setCell ⟨g,o+2,none⟩ c
theorem set3_ne {w:World} {g o g' j:Nat} {a b c:Value} (h:g≠g'∨j < o∨o+2 < j):(set3 w g o a b c).cell? ⟨g',j,none⟩=w.cell? ⟨g',j,none⟩:=by
  unfold set3
  rw [cell_set_ne _ (by omega),cell_set_ne _ (by omega),cell_set_ne _ (by omega)]
theorem set3_at {w:World} {g o:Nat} {a b c u0 u1 u2:Value} (h0:w.cell? ⟨g,o,none⟩=some u0) (h1:w.cell? ⟨g,o+1,none⟩=some u1) (h2:w.cell? ⟨g,o+2,none⟩=some u2) :
    (set3 w g o a b c).cell? ⟨g,o,none⟩=some a∧(set3 w g o a b c).cell? ⟨g,o+1,none⟩=some b∧(set3 w g o a b c).cell? ⟨g,o+2,none⟩=some c:=by
  unfold set3
  refine ⟨?_,?_,?_⟩
  · rw [cell_set_ne _ (by omega),cell_set_ne _ (by omega)];exact cell_set_same _ h0
  · rw [cell_set_ne _ (by omega)];exact cell_set_same _ (by rw [cell_set_ne _ (by omega)];exact h1)
  · exact cell_set_same _ (by rw [cell_set_ne _ (by omega),cell_set_ne _ (by omega)];exact h2)
theorem OwnRow.set3 {w:World} {e:TypeId} {size:Nat} {g n c:Nat} (h:OwnRow w e size (some g) n c) (j:Nat) (x y z:Value):OwnRow (set3 w g j x y z) e size (some g) n c:=((h.set _ _).set _ _).set _ _
theorem Touch.set3 {T:Nat→Prop} {a w:World} {g:Nat} (h:Touch T a w) (hp:g < a.heap.size→T g) (j:Nat) (x y z:Value):Touch T a (set3 w g j x y z) :=
  ((h.setCell (p:=⟨g,j,none⟩) hp _).setCell (p:=⟨g,j+1,none⟩) hp _).setCell (p:=⟨g,j+2,none⟩) hp _
theorem set3_size (w:World) (g o:Nat) (a b c:Value):(set3 w g o a b c).heap.size=w.heap.size:=by simp [set3,World.setCell]
theorem stepL {w wr:World} {g k ln lc m:Nat} (hk:k < ln) (hown:OwnRow wr 27 3 (some g) ln lc)
    (hd:∀ j,j < k→∃ g',some g=some g'∧wr.cell? ⟨g',j * 3,none⟩=some (.int .i64 77)∧wr.cell? ⟨g',j * 3+1,none⟩=some (.int .i64 m)∧wr.cell? ⟨g',j * 3+2,none⟩=some (.string ⟨#[]⟩))
    (ht:Touch (fun i=>some g=some i) w wr) :
    OwnRow (set3 wr g (k * 3) (.int .i64 77) (.int .i64 m) (.string ⟨#[]⟩)).drew 27 3 (some g) ln lc ∧
    (∀ j,j < k+1→∃ g',some g=some g'∧(set3 wr g (k * 3) (.int .i64 77) (.int .i64 m) (.string ⟨#[]⟩)).drew.cell? ⟨g',j * 3,none⟩=some (.int .i64 77) ∧
      (set3 wr g (k * 3) (.int .i64 77) (.int .i64 m) (.string ⟨#[]⟩)).drew.cell? ⟨g',j * 3+1,none⟩=some (.int .i64 m)∧(set3 wr g (k * 3) (.int .i64 77) (.int .i64 m) (.string ⟨#[]⟩)).drew.cell? ⟨g',j * 3+2,none⟩=some (.string ⟨#[]⟩)) ∧
    Touch (fun i=>some g=some i) w (set3 wr g (k * 3) (.int .i64 77) (.int .i64 m) (.string ⟨#[]⟩)).drew:=by
  refine ⟨(hown.set3 _ _ _ _).drew,fun j hj=>⟨g,rfl,?_⟩,(ht.set3 (fun _=>rfl) _ _ _ _).drew⟩
  simp only [World.cell?_drew]
  by_cases e:j=k
  · subst e
    obtain ⟨u0,a0,_⟩:=ownRow_cell (j:=j * 3) hown (by omega)
    obtain ⟨u1,a1,_⟩:=ownRow_cell (j:=j * 3+1) hown (by omega)
    obtain ⟨u2,a2,_⟩:=ownRow_cell (j:=j * 3+2) hown (by omega)
    exact set3_at a0 a1 a2
  · obtain ⟨g',e',h0,h1,h2⟩:=hd j (by omega)
    cases e'
    rw [set3_ne (by omega),set3_ne (by omega),set3_ne (by omega)]
    exact ⟨h0,h1,h2⟩
theorem stepO {wb wr:World} {g k on oc m:Nat} {q:Nat→Nat} (hk:k < on) (hown:OwnRow wr 71 3 (some g) on oc)
    (hd:∀ j,j < k→wb.heap.size≤q j∧∃ g' c,some g=some g'∧wr.cell? ⟨g',j * 3,none⟩=some (.bool false)∧wr.cell? ⟨g',j * 3+1,none⟩=some (.int .i64 m)∧wr.cell? ⟨g',j * 3+2,none⟩=some (.slice (some ⟨q j,0,none⟩) 1 c)∧wr.cell? ⟨q j,0,none⟩=some (.int .u8 ((m:Int) % 256)))
    (ht:Touch (fun i=>some g=some i) wb wr) (hgb:g < wb.heap.size) (w2:World)
    (hw2:w2=((set3 wr g (k * 3) (.bool false) (.int .i64 m) (.slice (some ⟨wr.heap.size,0,none⟩) 1 1)).alloc (.cells #[.int .u8 ((m:Int) % 256)] 5)).drew) :
    OwnRow w2 71 3 (some g) on oc ∧
    (∀ j,j < k+1→wb.heap.size≤(if j=k then wr.heap.size else q j)∧∃ g' c,some g=some g'∧w2.cell? ⟨g',j * 3,none⟩=some (.bool false) ∧
      w2.cell? ⟨g',j * 3+1,none⟩=some (.int .i64 m)∧w2.cell? ⟨g',j * 3+2,none⟩=some (.slice (some ⟨if j=k then wr.heap.size else q j,0,none⟩) 1 c)∧w2.cell? ⟨if j=k then wr.heap.size else q j,0,none⟩=some (.int .u8 ((m:Int) % 256))) ∧
    Touch (fun i=>some g=some i) wb w2:=by
  subst hw2
  have hs3:=set3_size wr g (k * 3) (.bool false) (.int .i64 m) (.slice (some ⟨wr.heap.size,0,none⟩) 1 1)
  refine ⟨((hown.set3 _ _ _ _).alloc _).drew,fun j hj=>?_,((ht.set3 (fun _=>rfl) _ _ _ _).alloc _).drew⟩
  simp only [World.cell?_drew]
  have hgr:g < wr.heap.size:=Nat.lt_of_lt_of_le hgb ht.size
  have old:∀ (b o:Nat),b < wr.heap.size→((set3 wr g (k * 3) (.bool false) (.int .i64 m) (.slice (some ⟨wr.heap.size,0,none⟩) 1 1)).alloc (.cells #[.int .u8 ((m:Int) % 256)] 5)).cell? ⟨b,o,none⟩=(set3 wr g (k * 3) (.bool false) (.int .i64 m) (.slice (some ⟨wr.heap.size,0,none⟩) 1 1)).cell? ⟨b,o,none⟩ :=
    fun b o hb=>World.cell?_alloc_past _ _ _ (by omega)
  by_cases e:j=k
  · subst e
    obtain ⟨u0,a0,_⟩:=ownRow_cell (j:=j * 3) hown (by omega)
    obtain ⟨u1,a1,_⟩:=ownRow_cell (j:=j * 3+1) hown (by omega)
    obtain ⟨u2,a2,_⟩:=ownRow_cell (j:=j * 3+2) hown (by omega)
    obtain ⟨b0,b1,b2⟩:=set3_at (a:=.bool false) (b:=.int .i64 m) (c:=.slice (some ⟨wr.heap.size,0,none⟩) 1 1) a0 a1 a2
    simp only [if_true]
    refine ⟨ht.size,g,1,rfl,by rw [old _ _ hgr];exact b0,by rw [old _ _ hgr];exact b1,by rw [old _ _ hgr];exact b2,?_⟩
    rw [World.cell?_alloc_at _ _ _ _ hs3.symm];rfl
  · obtain ⟨hq,g',c,e',h0,h1,h2,h3⟩:=hd j (by omega)
    cases e'
    simp only [if_neg e]
    have hqs:=World.block_lt_of_cell? _ _ h3
    dsimp only at hqs
    refine ⟨hq,g,c,rfl,?_,?_,?_,?_⟩
    · rw [old _ _ hgr,set3_ne (by omega)];exact h0
    · rw [old _ _ hgr,set3_ne (by omega)];exact h1
    · rw [old _ _ hgr,set3_ne (by omega)];exact h2
    · rw [old _ _ hqs,set3_ne (by omega)];exact h3
theorem marks_end {w wa wb wc:World} {p bn bc ln lc on oc m:Nat} {b l o:Option Nat} {qf q:Nat→Nat}
    (h:Cur w ⟨p,b,bn,bc,l,ln,lc,o,on,oc,qf,m⟩)
    (oa:OwnRow wa 5 1 b bn bc) (da:∀ j,j < bn→∃ g,b=some g∧wa.cell? ⟨g,j,none⟩=some (.int .u8 (sg m j))) (ta:Touch (fun i=>b=some i) w wa)
    (ob:OwnRow wb 27 3 l ln lc)
    (db:∀ j,j < ln→∃ g,l=some g∧wb.cell? ⟨g,j * 3,none⟩=some (.int .i64 77)∧wb.cell? ⟨g,j * 3+1,none⟩=some (.int .i64 m)∧wb.cell? ⟨g,j * 3+2,none⟩=some (.string ⟨#[]⟩)) (tb:Touch (fun i=>l=some i) wa wb)
    (oc':OwnRow wc 71 3 o on oc)
    (dc:∀ j,j < on→wb.heap.size≤q j∧∃ g c,o=some g∧wc.cell? ⟨g,j * 3,none⟩=some (.bool false)∧wc.cell? ⟨g,j * 3+1,none⟩=some (.int .i64 m)∧wc.cell? ⟨g,j * 3+2,none⟩=some (.slice (some ⟨q j,0,none⟩) 1 c)∧wc.cell? ⟨q j,0,none⟩=some (.int .u8 ((m:Int) % 256)))
    (tc:Touch (fun i=>o=some i) wb wc) :
    Cur wc ⟨p,b,bn,bc,l,ln,lc,o,on,oc,q,m⟩∧HoldIs wc ⟨p,b,bn,bc,l,ln,lc,o,on,oc,q,m⟩∧(∀ j,j < on→w.heap.size≤q j)∧Touch (HG.rows ⟨p,b,bn,bc,l,ln,lc,o,on,oc,qf,m⟩) w wc:=by
  obtain ⟨hp,rb,rl,ro,pb,pl,po,bl,bo,lo⟩:=h
  dsimp only at *
  have hpc:=tc.heapAt (tb.heapAt (ta.heapAt hp pb) pl) po
  refine ⟨⟨hpc,?_,?_,oc',pb,pl,po,bl,bo,lo⟩,⟨by rw [cell_of_heap hpc];rfl,by rw [cell_of_heap hpc];rfl,by rw [cell_of_heap hpc];rfl,by rw [cell_of_heap hpc];rfl,?_,?_,fun j hj=>(dc j hj).2⟩,fun j hj=>?_,?_⟩
  · exact (oa.touch tb (fun g e1 e2=>bl g e1 e2)).touch tc (fun g e1 e2=>bo g e1 e2)
  · exact ob.touch tc (fun g e1 e2=>lo g e1 e2)
  · intro j hj
    obtain ⟨g,e,hc⟩:=da j hj
    exact ⟨g,e,tc.cell (tb.cell hc (fun e2=>bl g e e2)) (fun e2=>bo g e e2)⟩
  · intro j hj
    obtain ⟨g,e,h0,h1,h2⟩:=db j hj
    exact ⟨g,e,tc.cell h0 (fun e2=>lo g e e2),tc.cell h1 (fun e2=>lo g e e2),tc.cell h2 (fun e2=>lo g e e2)⟩
  · have:=(dc j hj).1;have:=ta.size;have:=tb.size;omega
  · exact (ta.mono (fun _ _ e=>.inl e)).trans ((tb.mono (T':=fun i=>l=some i∨o=some i) (fun _ _ e=>.inl e)).trans tc (fun _ _ e=>.inr e)) (fun _ _ e=>.inr e)
theorem marks_any (h:HG) (w:World) (hh:Cur w h) (hm:h.m≤100000000) (h1:h.bn≤100000000) (h2:h.ln≤100000000) (h3:h.on≤100000000) :
    Calls Tryz.prog 100 #[.pointer (some ⟨h.p,0,none⟩)] w fun e w'=>e=.returned (.tuple #[])∧∃ q:Nat→Nat,Cur w' { h with q:=q }∧HoldIs w' { h with q:=q }∧(∀ j,j < h.on→w.heap.size≤q j)∧Touch h.rows w w':=by
  obtain ⟨p,b,bn,bc,l,ln,lc,o,on,oc,qf,m⟩:=h
  have c0:=(cell_of_heap hh.hp 0)
  have c1:=(cell_of_heap hh.hp 1)
  have c2:=(cell_of_heap hh.hp 2)
  have c3:=(cell_of_heap hh.hp 3)
  simp only [List.getElem?_toArray,List.getElem?_cons_zero,List.getElem?_cons_succ] at c0 c1 c2 c3
  have HH:Hid _:=hh
  obtain ⟨hp,rb,rl,ro,pb,pl,po,bl,bo,lo⟩:=hh
  dsimp only at *
  have HB:Hid (OwnRow w 5 1 b bn bc):=rb
  have HPB:Hid (b≠some p):=pb
  unfold sl at c0 c1 c2
  have HP:=hp
  replace HP:Hid (w.heap[p]?=some _):=hp
  have HL:Hid (OwnRow w 27 3 l ln lc):=rl
  have HO:Hid (OwnRow w 71 3 o on oc):=ro
  have HPL:Hid (l≠some p):=pl
  have HPO:Hid (o≠some p):=po
  have HBL:Hid (∀ g,b=some g→l≠some g):=bl
  have HBO:Hid (∀ g,b=some g→o≠some g):=bo
  have HLO:Hid (∀ g,l=some g→o≠some g):=lo
  clear hp pb rb rl ro pl po bl bo lo
  go_enter Tryz.func100,Tryz.ntmps100
  go_wp2
  go_loopw [2] (fun i wr=>∃ k:Nat,k≤bn∧i=.int .i64 k∧OwnRow wr 5 1 b bn bc∧(∀ j,j < k→∃ g,b=some g∧wr.cell? ⟨g,j,none⟩=some (.int .u8 (sg m j)))∧Touch (fun i=>b=some i) w wr) (fun i _=>bn - (intOf i).toNat)
  case atStart=>exact ⟨0,Nat.zero_le _,rfl,HB.out,fun j hj=>absurd hj (by omega),Touch.refl _ _⟩
  case round =>
    obtain ⟨k,hk,rfl,hown,hdone,ht⟩:=hrel
    have d0:wr.cell? ⟨p,0,none⟩=_:=ht.cell c0 HPB.out
    have d3:wr.cell? ⟨p,3,none⟩=_:=ht.cell c3 HPB.out
    by_cases hlt:k < bn
    · obtain ⟨g,rfl⟩:=ownRow_some hown hlt
      obtain ⟨v0,dg,df⟩:=ownRow_cell (j:=k) hown (by omega)
      have hgp:¬ g=p:=fun e=>HPB.out (by rw [e])
      have R:Hid _:=stepB hlt hown dg hdone ht
      clear hdone ht
      go_wp2
      go_region_held (fun w'=>w'.cell? ⟨p,0,none⟩=some (.slice (some ⟨g,0,none⟩) bn bc)∧w'.cell? ⟨p,3,none⟩=some (.int .i64 m)) (go_keep) (first | (go_at_call 112;refine (sign_any m k _ hm (by omega)).mono ?_;rintro e w' ⟨rfl,rfl⟩))
      go_wp2
      go_roundw
      case rel=>exact ⟨k+1,by omega,by go_num,R.out⟩
      case measure=>simp [intOf];omega
    · have e1:k=bn:=by omega
      subst e1
      have HO1':Hid _:=hown
      have HD1:Hid _:=hdone
      have HT1:Hid _:=ht
      have f1:wr.cell? ⟨p,1,none⟩=_:=ht.cell c1 HPB.out
      have f2:wr.cell? ⟨p,2,none⟩=_:=ht.cell c2 HPB.out
      have HL1:Hid (OwnRow wr 27 3 l ln lc):=HL.out.touch ht (fun g e1 e2=>HBL.out g e2 e1)
      clear hown hdone ht
      go_wp2
      rename World=>wa
      go_loopw [3] (fun i wq=>∃ k2:Nat,k2≤ln∧i=.int .i64 k2∧OwnRow wq 27 3 l ln lc ∧
          (∀ j,j < k2→∃ g,l=some g∧wq.cell? ⟨g,j * 3,none⟩=some (.int .i64 77)∧wq.cell? ⟨g,j * 3+1,none⟩=some (.int .i64 m)∧wq.cell? ⟨g,j * 3+2,none⟩=some (.string ⟨#[]⟩))∧Touch (fun i=>l=some i) wa wq) (fun i _=>ln - (intOf i).toNat)
      case atStart=>exact ⟨0,Nat.zero_le _,rfl,HL1.out,fun j hj=>absurd hj (by omega),Touch.refl _ _⟩
      case round =>
        obtain ⟨k2,hk2,rfl,hown,hdone,ht⟩:=hrel
        have x1:wr.cell? ⟨p,1,none⟩=_:=ht.cell f1 HPL.out
        have x3:wr.cell? ⟨p,3,none⟩=_:=ht.cell d3 HPL.out
        by_cases hlt2:k2 < ln
        · obtain ⟨g,rfl⟩:=ownRow_some hown hlt2
          obtain ⟨v0,dg,df⟩:=ownRow_cell (j:=k2 * 3) hown (by omega)
          obtain ⟨v1,dg1,df1⟩:=ownRow_cell (j:=k2 * 3+1) hown (by omega)
          obtain ⟨v2,dg2,df2⟩:=ownRow_cell (j:=k2 * 3+2) hown (by omega)
          have hgp:¬ g=p:=fun e=>HPL.out (by rw [e])
          have R:Hid _:=stepL hlt2 hown hdone ht
          clear hdone ht hown
          go_wp2
          go_region_held (fun w'=>w'.cell? ⟨p,1,none⟩=some (.slice (some ⟨g,0,none⟩) ln lc)∧w'.cell? ⟨p,3,none⟩=some (.int .i64 m)) (go_keep) (fail)
          go_wp2
          go_roundw
          case rel=>exact ⟨k2+1,by omega,by go_num,R.out⟩
          case measure=>simp [intOf];omega
        · have e2:k2=ln:=by omega
          subst e2
          have HO2:Hid _:=hown
          have HD2:Hid _:=hdone
          have HT2:Hid _:=ht
          have y2:wr.cell? ⟨p,2,none⟩=_:=ht.cell f2 HPL.out
          have HO1:Hid (OwnRow wr 71 3 o on oc):=(HO.out.touch HT1.out (fun g e1 e2=>HBO.out g e2 e1)).touch ht (fun g e1 e2=>HLO.out g e2 e1)
          clear hown hdone ht
          go_wp2
          rename World=>wb
          go_loopw [4] (fun i wq=>∃ (k3:Nat) (q:Nat→Nat),k3≤on∧i=.int .i64 k3∧OwnRow wq 71 3 o on oc ∧
              (∀ j,j < k3→wb.heap.size≤q j∧∃ g c,o=some g∧wq.cell? ⟨g,j * 3,none⟩=some (.bool false)∧wq.cell? ⟨g,j * 3+1,none⟩=some (.int .i64 m)∧wq.cell? ⟨g,j * 3+2,none⟩=some (.slice (some ⟨q j,0,none⟩) 1 c)∧wq.cell? ⟨q j,0,none⟩=some (.int .u8 ((m:Int) % 256)))∧Touch (fun i=>o=some i) wb wq) (fun i _=>on - (intOf i).toNat)
          case atStart=>exact ⟨0,fun _=>0,Nat.zero_le _,rfl,HO1.out,fun j hj=>absurd hj (by omega),Touch.refl _ _⟩
          case round =>
            obtain ⟨k3,q,hk3,rfl,hown,hdone,ht⟩:=hrel
            have z2:wr.cell? ⟨p,2,none⟩=_:=ht.cell y2 HPO.out
            have z3:wr.cell? ⟨p,3,none⟩=_:=ht.cell x3 HPO.out
            by_cases hlt3:k3 < on
            · obtain ⟨g,rfl⟩:=ownRow_some hown hlt3
              obtain ⟨v0,dg,df⟩:=ownRow_cell (j:=k3 * 3) hown (by omega)
              obtain ⟨v1,dg1,df1⟩:=ownRow_cell (j:=k3 * 3+1) hown (by omega)
              obtain ⟨v2,dg2,df2⟩:=ownRow_cell (j:=k3 * 3+2) hown (by omega)
              have hgp:¬ g=p:=fun e=>HPO.out (by rw [e])
              have hps:p < wr.heap.size:=World.block_lt_of_cell? _ _ z3
              have hgs:g < wr.heap.size:=World.block_lt_of_cell? _ _ dg
              have hgb:g < wb.heap.size:=by
                obtain ⟨v5,e5,_⟩:=ownRow_cell (j:=0) HO1.out (by omega)
                exact World.block_lt_of_cell? _ _ e5
              have R:Hid _:=stepO hlt3 hown hdone ht hgb _ rfl
              clear hdone ht hown
              go_wp2
              go_region_held (fun w'=>w'.cell? ⟨p,2,none⟩=some (.slice (some ⟨g,0,none⟩) on oc)∧w'.cell? ⟨p,3,none⟩=some (.int .i64 m)) (go_keep) (fail)
              go_wp2
              go_roundw
              case rel=>exact ⟨k3+1,_,by omega,by go_num,R.out⟩
              case measure=>simp [intOf];omega
            · have e3:k3=on:=by omega
              subst e3
              have HO3:Hid _:=hown
              have HD3:Hid _:=hdone
              have HT3:Hid _:=ht
              clear hown hdone ht
              go_wp2
              go_end0
              exact ⟨rfl,q,marks_end HH.out HO1'.out HD1.out HT1.out HO2.out HD2.out HT2.out HO3.out HD3.out HT3.out⟩
end
section
open Go.RowKit
structure AppPost (w w':World) (e:TypeId) (size:Nat) (b:Option Nat) (n m:Nat) (news:List Value) (g c':Nat):Prop where
  own:OwnRow w' e size (some g) (n+m) c'
  new:∀ j,j < m * size→w'.cell? ⟨g,n * size+j,none⟩=news[j]?
  old:∀ j,j < n * size→∀ k,b=some k→w'.cell? ⟨g,j,none⟩=w.cell? ⟨k,j,none⟩
  keep:∀ k j,k < w.heap.size→¬ (b=some k∧n * size≤j)→w'.cell? ⟨k,j,none⟩=w.cell? ⟨k,j,none⟩
  touch:Touch (fun k=>b=some k) w w'
  lies:b=some g∨w.heap.size≤g
section
variable {P:Program} (w:World)
theorem addr_add (g o j:Nat):(⟨g,o,none⟩:Addr).add j=⟨g,o+j,none⟩:=by unfold Addr.add;split <;> simp_all
theorem run_app (t ty:TypeId) (e:TypeId) (i:TypeInfo) (z:Value) (size bytes:Nat) (ht:P.underlying t=some (.slice e)) (hi:P.info? e=some i) (hz:i.zero=some z)
    (hsize:i.size=size) (hby:i.bytes=bytes) (hzs:z.cells.size=size)
    (b:Option Nat) (n c:Nat) (hown:OwnRow w e size b n c)
    (ad:Addr) (m cc:Nat) (news:List Value) (hl:news.length=m * size) (hnews:∀ j u,news[j]?=some u→w.cell? (ad.add j)=some u) (h1:∀ u ∈ news,u.oneCell'=true)
    (hm:0 < m) (hbytes:(n+m) * bytes≤140737488355328) (h63:n+m≤140737488355328) :
    ∃ g c' w',(Builtin.append_ #[t,t] ty #[sl b n c,.slice (some ad) m cc]).run P w=.ok (.slice (some ⟨g,0,none⟩) (n+m) c') w'∧AppPost w w' e size b n m news g c':=by
  subst hsize
  subst hby
  have hmx:n+m≤maxLen:=by simp only [maxLen];omega
  have grown:∀ (old:Nat) (xs:List Value),xs.length=n * i.size→(∀ j,j < n * i.size→∀ k,b=some k→xs[j]?=w.cell? ⟨k,j,none⟩)→old < n+m →
      AppPost w (w.drew.alloc (.cells (xs.toArray++news.toArray++Builtin.zeroCells z.cells (grownCap w (n+m) old e - (n+m))) e)) e i.size b n m news w.heap.size (grownCap w (n+m) old e):=by
    intro old xs hxl hxs ho
    have hge:=grownCap_ge w (n+m) old e
    have hcm:grownCap w (n+m) old e≤maxLen:=grownCap_le_maxLen w (n+m) old e hmx
    have hnew:(w.drew.alloc (.cells (xs.toArray++news.toArray++Builtin.zeroCells z.cells (grownCap w (n+m) old e - (n+m))) e)).heap[w.heap.size]?=some (.cells (xs.toArray++news.toArray++Builtin.zeroCells z.cells (grownCap w (n+m) old e - (n+m))) e (0,0)):=heap_alloc_new w.drew _
    refine ⟨.inr ⟨_,_,rfl,hnew,?_,hge,hcm⟩,fun j hj=>?_,fun j hj k hk=>?_,fun k j hk _=>?_,((Touch.refl _ w).drew).alloc _,.inr (Nat.le_refl _)⟩
    · simp only [Array.size_append,List.size_toArray,size_zeroCells,hzs,hxl,hl,← Nat.add_mul]
      congr 1
      omega
    · rw [cell_of_heap hnew,Array.getElem?_append_left (by simp;omega),Array.getElem?_append_right (by simp;omega)]
      simp [hxl]
    · rw [cell_of_heap hnew,Array.getElem?_append_left (by simp;omega),Array.getElem?_append_left (by simp;omega)]
      simpa using hxs j hj k hk
    · exact World.cell?_alloc_past (w:=w.drew) _ _ _ hk
  rcases hown with ⟨rfl,rfl,rfl⟩ | ⟨g,cur,rfl,hg,hcs,hnc,hcm⟩
  · have hr:=run_append_nil (P:=P) w t ty e i z ht hi hz ad m cc news hl hnews (by omega) (by omega) (by simp only [Nat.zero_add] at hbytes;omega)
    have hgr:=grown 0 [] (by simp) (fun j hj=>by omega) (by omega)
    simp only [Nat.zero_add,Array.empty_append] at hgr hr ⊢
    exact ⟨_,_,_,hr,hgr⟩
  · by_cases hroom:n+m≤c
    · have hns:n * i.size+news.length=(n+m) * i.size:=by rw [hl,← Nat.add_mul]
      have hfit:n * i.size+news.length≤cur.size:=by rw [hns,hcs];exact Nat.mul_le_mul_right _ hroom
      have hr:=run_append_room (P:=P) w t ty e i ht hi g n c cur hg ad m cc news hl hnews h1 hroom hfit
      have hsr:=setRow_heap w g cur (cur.toList.take (n * i.size)++news++cur.toList.drop (n * i.size+news.length)).toArray e (0,0) hg
      have htl:(cur.toList.take (n * i.size)).length=n * i.size:=by rw [List.length_take,Array.length_toList];omega
      have hold:∀ j,j < n * i.size→(cur.toList.take (n * i.size)++news++cur.toList.drop (n * i.size+news.length)).toArray[j]?=cur[j]?:=fun j hj=>by
        simp only [List.getElem?_toArray]
        rw [List.getElem?_append_left (by simp only [List.length_append,htl];omega),List.getElem?_append_left (by omega),List.getElem?_take_of_lt hj,Array.getElem?_toList]
      refine ⟨g,c,_,hr,⟨.inr ⟨g,_,rfl,hsr,?_,hroom,hcm⟩,fun j hj=>?_,fun j hj k hk=>?_,fun k j hk hn=>?_,⟨rfl,rfl,rfl,by simp [World.setRow],fun k _ hk=>setRow_other w g k _ (fun e=>hk (by rw [e]))⟩,.inl rfl⟩⟩
      · simp only [List.size_toArray,List.length_append,List.length_drop,htl,Array.length_toList];omega
      · rw [cell_of_heap hsr]
        simp only [List.getElem?_toArray]
        rw [List.getElem?_append_left (by simp only [List.length_append,htl];omega),List.getElem?_append_right (by omega),htl]
        congr 1;omega
      · cases hk
        rw [cell_of_heap hsr,cell_of_heap hg];exact hold j hj
      · by_cases hkg:k=g
        · subst hkg
          rw [cell_of_heap hsr,cell_of_heap hg];exact hold j (by rcases Nat.lt_or_ge j (n * i.size) with h | h;exact h;exact absurd ⟨rfl,h⟩ hn)
        · exact World.cell?_of_block (setRow_other w g k _ hkg)
    · have hxl:(cur.toList.take (n * i.size)).length=n * i.size:=by
        rw [List.length_take,Array.length_toList,hcs];have:=Nat.mul_le_mul_right i.size hnc;omega
      have hxs:∀ j,j < n * i.size→(cur.toList.take (n * i.size))[j]?=w.cell? ⟨g,j,none⟩:=fun j hj=>by
        rw [cell_of_heap hg,List.getElem?_take_of_lt hj,Array.getElem?_toList]
      have holds:∀ j u,(cur.toList.take (n * i.size))[j]?=some u→w.cell? ((⟨g,0,none⟩:Addr).add j)=some u:=fun j u hu=>by
        have hj:j < n * i.size:=by
          rcases Nat.lt_or_ge j (n * i.size) with h | h
          · exact h
          · rw [List.getElem?_eq_none (by omega)] at hu;cases hu
        rw [addr_add,Nat.zero_add,← hxs j hj];exact hu
      have hr:=run_append_grow (P:=P) w t ty e i z ht hi hz ⟨g,0,none⟩ n c _ hxl holds ad m cc news hl hnews (by omega) (by omega) (growslice_fits (by omega) hbytes)
      exact ⟨_,_,_,hr,grown c _ hxl (fun j hj k hk=>by cases hk;exact hxs j hj) (by omega)⟩
theorem wp_app {o:Oper} {a:Act} {K:Act→World→Prop} {Q:Exit→Act→World→Prop} (s x:Operand) (t:TypeId)
    (ho:o.op=.call { callee:=.builtin .append,args:=#[s,x],argTypes:=#[t,t] })
    (e:TypeId) (i:TypeInfo) (z:Value) (size bytes:Nat) (ht:P.underlying t=some (.slice e)) (hi:P.info? e=some i) (hz:i.zero=some z)
    (hsize:i.size=size) (hby:i.bytes=bytes) (hzs:z.cells.size=size)
    (b:Option Nat) (n c:Nat) (hs:a.eval s=sl b n c) (hown:OwnRow w e size b n c)
    (ad:Addr) (m cc:Nat) (news:List Value) (hx:a.eval x=.slice (some ad) m cc) (hl:news.length=m * size) (hnews:∀ j u,news[j]?=some u→w.cell? (ad.add j)=some u) (h1:∀ u ∈ news,u.oneCell'=true)
    (hm:0 < m) (hbytes:(n+m) * bytes≤140737488355328) (h63:n+m≤140737488355328)
    (h:∀ g c' w',AppPost w w' e size b n m news g c'→K (a.put o.dst (.slice (some ⟨g,0,none⟩) (n+m) c')) w'):o.wp P a w K Q:=by
  obtain ⟨g,c',w',hr,h2⟩:=run_app (P:=P) w t o.type e i z size bytes ht hi hz hsize hby hzs b n c hown ad m cc news hl hnews h1 hm hbytes h63
  unfold Oper.wp execOp
  simp only [ho,resolve,invoke,builtin,Sem.run_bind,Sem.run_pure,Result.andThen_ok,List.map_toArray,List.map_cons,List.map_nil,hs,hx,hr]
  exact h g c' w' h2
theorem wpList_app {ops:Array Oper} {rest:List Oper} {o:Oper} {a:Act} {Q:Exit→Act→World→Prop} (hgd:o.guard=none) (s x:Operand) (t:TypeId)
    (ho:o.op=.call { callee:=.builtin .append,args:=#[s,x],argTypes:=#[t,t] })
    (e:TypeId) (i:TypeInfo) (z:Value) (size bytes:Nat) (ht:P.underlying t=some (.slice e)) (hi:P.info? e=some i) (hz:i.zero=some z)
    (hsize:i.size=size) (hby:i.bytes=bytes) (hzs:z.cells.size=size)
    (b:Option Nat) (n c:Nat) (hs:a.eval s=sl b n c) (hown:OwnRow w e size b n c)
    (ad:Addr) (m cc:Nat) (news:List Value) (hx:a.eval x=.slice (some ad) m cc) (hl:news.length=m * size) (hnews:∀ j u,news[j]?=some u→w.cell? (ad.add j)=some u) (h1:∀ u ∈ news,u.oneCell'=true)
    (hm:0 < m) (hbytes:(n+m) * bytes≤140737488355328) (h63:n+m≤140737488355328)
    (h:∀ g c' w',AppPost w w' e size b n m news g c'→wpList P ops Q rest (a.put o.dst (.slice (some ⟨g,0,none⟩) (n+m) c')) w'):wpList P ops Q (o :: rest) a w :=
  wpList_plain hgd fun _ hK=>wp_app w s x t ho e i z size bytes ht hi hz hsize hby hzs b n c hs hown ad m cc news hx hl hnews h1 hm hbytes h63 fun g c' w' h2=>hK _ _ (h g c' w' h2)
theorem step_app {ops:Array Oper} {o:Oper} {a:Act} {K:Act→World→Prop} {Q:Exit→Act→World→Prop} {E:Prop} (hgd:o.guard=none) (s x:Operand) (t:TypeId)
    (ho:o.op=.call { callee:=.builtin .append,args:=#[s,x],argTypes:=#[t,t] })
    (e:TypeId) (i:TypeInfo) (z:Value) (size bytes:Nat) (ht:P.underlying t=some (.slice e)) (hi:P.info? e=some i) (hz:i.zero=some z)
    (hsize:i.size=size) (hby:i.bytes=bytes) (hzs:z.cells.size=size)
    (b:Option Nat) (n c:Nat) (hs:a.eval s=sl b n c) (hown:OwnRow w e size b n c)
    (ad:Addr) (m cc:Nat) (news:List Value) (hx:a.eval x=.slice (some ad) m cc) (hl:news.length=m * size) (hnews:∀ j u,news[j]?=some u→w.cell? (ad.add j)=some u) (h1:∀ u ∈ news,u.oneCell'=true)
    (hm:0 < m) (hbytes:(n+m) * bytes≤140737488355328) (h63:n+m≤140737488355328)
    (h:∀ g c' w',AppPost w w' e size b n m news g c'→K (a.put o.dst (.slice (some ⟨g,0,none⟩) (n+m) c')) w') :
    if Region.wanted o (yielded ops a.tmps)=true then Oper.wp P o a w K Q else E:=by
  have hw:Region.wanted o (yielded ops a.tmps)=true:=by simp [Region.wanted,hgd]
  rw [if_pos hw]
  exact wp_app w s x t ho e i z size bytes ht hi hz hsize hby hzs b n c hs hown ad m cc news hx hl hnews h1 hm hbytes h63 h
end
end
end Go.Proofs.YtolififimldmlaaGreat
