import Derived.Test.YtolififimldmlaaGreatPart06
import Derived.Test.YtolififimldmlaaGreatPart07
import Derived.StillTailTactics
set_option linter.unusedVariables false
set_option linter.unusedSimpArgs false
set_option maxRecDepth 100000
set_option maxHeartbeats 16000000
namespace Go.Proofs.YtolififimldmlaaGreat
section
open Go.RowKit
attribute [local go_sem ↓] Go.wp_at_zero Go.wp_at_succ
theorem BytesIn.below {w w':World} {a:Option Addr} {l:List UInt8} (h:BytesIn w a l) (hb:Below w.heap.size w w'):BytesIn w' a l:=fun j hj=>by
  obtain ⟨g,o,e,hc⟩:=h j hj
  exact ⟨g,o,e,(hb.cell (World.block_lt_of_cell? _ _ hc)).trans hc⟩
theorem BytesIn.drop {w:World} {g o:Nat} {l:List UInt8} (h:BytesIn w (some ⟨g,o,none⟩) l) (k:Nat):BytesIn w (some ⟨g,o+k,none⟩) (l.drop k):=fun j hj=>by
  rw [List.length_drop] at hj
  obtain ⟨g',o',e,hc⟩:=h (k+j) (by omega)
  cases e
  exact ⟨g,o+k,rfl,by rw [List.getElem_drop,Nat.add_assoc];exact hc⟩
theorem BytesIn.take {w:World} {a:Option Addr} {l:List UInt8} (h:BytesIn w a l) (k:Nat):BytesIn w a (l.take k):=fun j hj=>by
  rw [List.length_take] at hj
  obtain ⟨g',o',e,hc⟩:=h j (by omega)
  exact ⟨g',o',e,by rw [List.getElem_take];exact hc⟩
theorem BytesIn.nil (w:World) (a:Option Addr):BytesIn w a []:=fun j hj=>absurd hj (by simp)
theorem BytesIn.cell {w:World} {g o:Nat} {l:List UInt8} (h:BytesIn w (some ⟨g,o,none⟩) l) (k:Nat) (hk:k < l.length):w.cell? ⟨g,o+k,none⟩=some (.int .u8 (l.getD k 0).toNat):=by
  obtain ⟨g',o',e,hc⟩:=h k hk
  cases e
  rw [getD_at l k 0 hk];exact hc
theorem wrap_byte (x:UInt8):IntKind.i64.wrap (x.toNat:Int)=(x.toNat:Int):=by
  have h:=x.toNat_lt
  rw [IntWalk.i64_left,IntWalk.wrap64_in _ (by omega)]
theorem BytesIn.cast {x x':World} {a:Option Addr} {l:List UInt8} (h:BytesIn x a l) (e:x'.heap=x.heap):BytesIn x' a l:=fun j hj=>by
  obtain ⟨g,o,e1,hc⟩:=h j hj
  exact ⟨g,o,e1,(cell_heap e _).trans hc⟩
theorem conv_in (g o n c:Nat) (l:List UInt8) (w:World) (h:BytesIn w (some ⟨g,o,none⟩) l) (e:l.length=n) :
    (convert 31 9 (.slice (some ⟨g,o,none⟩) n c)).run Tryz.prog w=.ok (.string ⟨l.toArray⟩) w:=by
  subst e
  have:=run_convert_bytes_arg (P:=Tryz.prog) w 31 5 Tryz.underlying31 Tryz.underlying5 g o l.length c (l.map fun b=>(b.toNat:Int)) (by simp) (fun i hi=>by
      rw [h.cell i hi];simp [List.getD,hi]) 9 Tryz.underlying9
  unfold strOfNums at this
  rw [List.map_map,show (fun n:Int=>UInt8.ofNat n.toNat) ∘ (fun b:UInt8=>(b.toNat:Int))=id from by funext b;simp,List.map_id] at this
  exact this
def TookLine (w0 w:World) (b:List UInt8) (e:Ending) (w':World):Prop :=
  ∃ a' cap',e=.returned (.tuple #[.agg #[.int .i64 (tlLine b).c,.int .i64 (tlLine b).t,.string ⟨(tlLine b).s.toArray⟩],sla a' (tlRest b).length cap',.bool (tlOk b)])∧BytesIn w0 a' (tlRest b)∧(tlRest b).length≤cap'∧Below w.heap.size w w'
theorem took_no {w0 w w':World} {b:List UInt8} (h:takeLine b=none) (hb:Below w.heap.size w w') :
    TookLine w0 w b (.returned (.tuple #[.agg #[.int .i64 0,.int .i64 0,.string ⟨#[]⟩],.slice none 0 0,.bool false])) w':=by
  obtain ⟨e1,e2,e3⟩:=tl_no b h
  refine ⟨none,0,?_,?_,?_,hb⟩
  · rw [e1,e2,e3];rfl
  · rw [e2];exact BytesIn.nil _ _
  · rw [e2];exact Nat.le_refl _
theorem took_yes {w0 w w':World} {b:List UInt8} {x y:UInt8} {k:Nat} (h:tlLine b=⟨x.toNat,y.toNat,(b.drop 3).take k⟩∧tlRest b=b.drop (3+k)∧tlOk b=true) {a':Option Addr} {n cap':Nat} {s:ByteArray} (hs:s=⟨((b.drop 3).take k).toArray⟩) (hn:n=b.length - (3+k))
    (h1:BytesIn w0 a' (b.drop (3+k))) (h2:n≤cap') (hb:Below w.heap.size w w') :
    TookLine w0 w b (.returned (.tuple #[.agg #[.int .i64 x.toNat,.int .i64 y.toNat,.string s],.slice a' n cap',.bool true])) w':=by
  subst hs
  subst hn
  refine ⟨a',cap',?_,?_,?_,hb⟩
  · rw [h.1,h.2.1,h.2.2,List.length_drop];rfl
  · rw [h.2.1];exact h1
  · rw [h.2.1,List.length_drop];exact h2
theorem takeLine_go (a:Option Addr) (cap:Nat) (b:List UInt8) (w0 w:World) (hb:BytesIn w0 a b) (hw:Below w0.heap.size w0 w) (hn:b.length≤100000000) (hcap:b.length≤cap) :
    Calls Tryz.prog 118 #[sla a b.length cap] w (TookLine w0 w b):=by
  have HB0:=hid hb
  have HB:=hid (hb.below hw)
  clear hb hw
  unfold sla
  rcases Nat.lt_or_ge b.length 3 with h3 | h3
  · have HN:Hid (takeLine b=none):=by show _=_;unfold takeLine;rw [if_pos h3]
    go_enter Tryz.func118,Tryz.ntmps118
    go_wp2
    exact bodyPost_ret (v:=.tuple #[.agg #[.int .i64 0,.int .i64 0,.string ⟨#[]⟩],.slice none 0 0,.bool false]) (by simp [results,Tryz.results118,go_sem]) rfl (took_no HN.out ((Below.refl _ _).alloc (Nat.le_refl _) _))
  · obtain ⟨g,o,rfl,hx0⟩:=HB.out 0 (by omega)
    clear hx0
    have hg:g < w.heap.size:=by
      have:=World.block_lt_of_cell? _ _ (HB.out.cell 0 (by omega))
      exact this
    have hg2:g≠w.heap.size:=by omega
    have c0:=HB.out.cell 0 (by omega)
    have c1:=HB.out.cell 1 (by omega)
    have c2:=HB.out.cell 2 (by omega)
    rw [Nat.add_zero] at c0
    have HY:=hid (tl_yes b h3)
    have HN:Hid (b.length < 3+(b.getD 2 0).toNat→takeLine b=none):=fun h=>by unfold takeLine;rw [if_neg (by omega),if_pos h]
    generalize b.getD 0 0=x at c0 HY
    generalize b.getD 1 0=y at c1 HY
    generalize b.getD 2 0=z at c2 HY HN
    have hx:x.toNat < 256:=x.toNat_lt
    have hy:y.toNat < 256:=y.toNat_lt
    have hz:z.toNat < 256:=z.toNat_lt
    rcases Nat.lt_or_ge b.length (3+z.toNat) with hl | hl
    · go_enter Tryz.func118,Tryz.ntmps118
      go_wp2
      all_goals exact bodyPost_ret (v:=.tuple #[.agg #[.int .i64 0,.int .i64 0,.string ⟨#[]⟩],.slice none 0 0,.bool false]) (by simp [results,Tryz.results118,go_sem]) rfl (took_no (HN.out hl) ((Below.refl _ _).alloc (Nat.le_refl _) _))
    · have HYY:=hid (HY.out hl)
      clear HY HN
      go_enter Tryz.func118,Tryz.ntmps118
      have wx:IntKind.i64.wrap (x.toNat:Int)=(x.toNat:Int):=wrap_byte x
      have wy:IntKind.i64.wrap (y.toNat:Int)=(y.toNat:Int):=wrap_byte y
      have l0:(0:Int) < (b.length:Int):=by omega
      have l1:(1:Int) < (b.length:Int):=by omega
      have l00:0 < b.length:=by omega
      have lz0:(0:Int)≤(z.toNat:Int):=by omega
      have lz:(z.toNat:Int)≤((cap - 3:Nat):Int):=by omega
      have lz2:(z.toNat:Int)≤((b.length - 3:Nat):Int):=by omega
      have ld:((b.drop 3).take z.toNat).length=z.toNat:=by rw [List.length_take,List.length_drop];omega
      have hc3:cap=3∨3 < cap:=by omega
      rcases hc3 with hc3 | hc3
      · have hb3:b.length=3:=by omega
        have hz0:z.toNat=0:=by omega
        subst hc3
        rw [hz0] at HYY
        clear hl lz lz2 lz0 ld hz hcap l0 l00 l1
        go_wp2
        generalize hY:w.alloc (.cells #[.int .i64 0,.int .i64 0,.string ⟨#[]⟩] 27)=Y
        have y0:Y.cell? ⟨g,o,none⟩=some (.int .u8 x.toNat):=by rw [← hY,World.cell?_alloc_past _ _ _ hg];exact c0
        have y1:Y.cell? ⟨g,o+1,none⟩=some (.int .u8 y.toNat):=by rw [← hY,World.cell?_alloc_past _ _ _ hg];exact c1
        have q0:Y.cell? ⟨w.heap.size,0,none⟩=some (.int .i64 0):=by rw [← hY];exact World.cell?_alloc_new _ _ _ _
        have q1:Y.cell? ⟨w.heap.size,1,none⟩=some (.int .i64 0):=by rw [← hY];exact World.cell?_alloc_new _ _ _ _
        have q2:Y.cell? ⟨w.heap.size,2,none⟩=some (.string ⟨#[]⟩):=by rw [← hY];exact World.cell?_alloc_new _ _ _ _
        have hf:∀ j,Y.frozen? ⟨w.heap.size,j,none⟩=false:=fun j=>by rw [← hY];exact frozen_of_heap (heap_alloc_new w _) j
        have hconv:∀ W:World,W.heap=Y.heap→(convert 31 9 (.slice (some ⟨g,o,none⟩) 0 0)).run Tryz.prog W=.ok (.string ⟨#[]⟩) W:=fun W e =>
          conv_in g o 0 0 [] W (BytesIn.nil _ _) rfl
        refine wp_region_still_tail 13 (by kernel_rfl) (by kernel_rfl) ?_
        simp only [List.take_succ_cons,List.take_zero,List.drop_succ_cons,List.drop_zero]
        iterate 11 still_step
        refine wpStill_step (fun K hK=>?_)
        go_simp
        rw [hconv Y.drew rfl]
        go_simp
        refine hK _ ?_
        clear hK K
        still_step
        refine wpStill_nil ?_
        go_wp2
        generalize hZ:(((Y.setCell ⟨w.heap.size,0,none⟩ (.int .i64 x.toNat)).setCell ⟨w.heap.size,1,none⟩ (.int .i64 y.toNat)).setCell ⟨w.heap.size,2,none⟩ (.string ⟨#[]⟩)).drew=Z
        have bz:Hid (Below w.heap.size w Z):=by
          show Below _ _ _
          rw [← hZ,← hY]
          exact (((((Below.refl _ w).alloc (Nat.le_refl _) _).setCell (p:=⟨w.heap.size,0,none⟩) (Nat.le_refl _) _).setCell (p:=⟨w.heap.size,1,none⟩) (Nat.le_refl _) _).setCell (p:=⟨w.heap.size,2,none⟩) (Nat.le_refl _) _).drew
        have hZb:Z.heap[w.heap.size]?=some (.cells #[.int .i64 x.toNat,.int .i64 y.toNat,.string ⟨#[]⟩] 27 (0,0)):=by
          have h:=heap_setCell (heap_setCell (heap_setCell (heap_alloc_new w (.cells #[.int .i64 0,.int .i64 0,.string ⟨#[]⟩] 27)) 0 (.int .i64 x.toNat)) 1 (.int .i64 y.toNat)) 2 (.string ⟨#[]⟩)
          rw [hY] at h
          rw [← hZ];exact h
        clear q0 q1 q2 hf y0 y1 hconv
        have q0:Z.cell? ⟨w.heap.size,0,none⟩=some (.int .i64 x.toNat):=cell_of_heap hZb 0
        have q1:Z.cell? ⟨w.heap.size,1,none⟩=some (.int .i64 y.toNat):=cell_of_heap hZb 1
        have q2:Z.cell? ⟨w.heap.size,2,none⟩=some (.string ⟨#[]⟩):=cell_of_heap hZb 2
        have hf:∀ j,Z.frozen? ⟨w.heap.size,j,none⟩=false:=fun j=>frozen_of_heap hZb j
        have HZ:=hid hZb
        clear hZ hY hZb
        refine wp_region_any (by kernel_rfl) ?_
        try (change wpAny _ _ _ _ _ _ _ (World.drew _))
        refine tA 1 ?_
        try simp only [lA,lB,lC,Act.put,lD,lE,lF]
        refine tA 2 ?_
        try simp only [lA,lB,lC,Act.put,lD,lE,lF]
        refine tA 3 ?_
        try simp only [lA,lB,lC,Act.put,lD,lE,lF]
        refine wpAny_ready (rs:=[0]) (by kernel_rfl) (by simp) ?_
        refine AllReady.cons rfl (fun K hK=>?_) AllReady.nil
        go_simp
        refine hK _ _ ?_
        clear hK K
        refine wpAny_ready (rs:=[4]) (by kernel_rfl) (by simp) ?_
        refine AllReady.cons rfl (fun K hK=>?_) AllReady.nil
        go_simp
        refine hK _ _ ?_
        clear hK K
        refine wpAny_ready (rs:=[5]) (by kernel_rfl) (by simp) ?_
        refine AllReady.cons rfl (fun K hK=>?_) AllReady.nil
        go_simp
        refine hK _ _ ?_
        clear hK K
        refine wpAny_ready (rs:=[6]) (by kernel_rfl) (by simp) ?_
        refine AllReady.cons rfl (fun K hK=>?_) AllReady.nil
        go_simp
        refine hK _ _ ?_
        clear hK K
        refine wpAny_done (by kernel_rfl) ?_ _
        go_wp2
        refine bodyPost_ret (v:=.tuple #[.agg #[.int .i64 x.toNat,.int .i64 y.toNat,.string ⟨#[]⟩],.slice (some ⟨g,o,none⟩) 0 0,.bool true]) (by simp [results,Tryz.results118,go_sem,q0,q1,q2,hf]) rfl (took_yes (k:=0) HYY.out (by simp) ?_ ?_ ?_ ?_)
        · omega
        · rw [List.drop_eq_nil_of_le (by omega)];exact BytesIn.nil _ _
        · exact Nat.le_refl _
        · exact (((bz.out.setCell (p:=⟨w.heap.size,0,none⟩) (Nat.le_refl _) _).setCell (p:=⟨w.heap.size,1,none⟩) (Nat.le_refl _) _).setCell (p:=⟨w.heap.size,2,none⟩) (Nat.le_refl _) _).drew
      · have HD:=hid ((HB.out.drop 3).below ((Below.refl _ w).alloc (Nat.le_refl _) (.cells #[.int .i64 0,.int .i64 0,.string ⟨#[]⟩] 27)))
        go_wp2
        have HLK:Hid (z.toNat≤b.length - 3∧b.length - 3≤cap - 3∧3+z.toNat≤b.length):=by show _∧_∧_;omega
        clear hl c2 lz0 lz lz2 hz hx hy
        have HCAP:=hid hcap
        clear hcap h3 hc3
        generalize z.toNat=k at *
        generalize hm:b.length - 3=m at *
        generalize hc:cap - 3=c3 at *
        obtain ⟨hkm,hmc,hk3⟩:=HLK.out
        have HM:=hid hm
        have HC3:=hid hc
        clear hm hc
        have lz0:(0:Int)≤(k:Int):=by omega
        by_cases hkc:c3=k
        · have hmk:m=k:=by omega
          subst hkc
          subst hmk
          generalize hY:w.alloc (.cells #[.int .i64 0,.int .i64 0,.string ⟨#[]⟩] 27)=Y at HD ⊢
          have y0:Y.cell? ⟨g,o,none⟩=some (.int .u8 x.toNat):=by rw [← hY,World.cell?_alloc_past _ _ _ hg];exact c0
          have y1:Y.cell? ⟨g,o+1,none⟩=some (.int .u8 y.toNat):=by rw [← hY,World.cell?_alloc_past _ _ _ hg];exact c1
          have q0:Y.cell? ⟨w.heap.size,0,none⟩=some (.int .i64 0):=by rw [← hY];exact World.cell?_alloc_new _ _ _ _
          have q1:Y.cell? ⟨w.heap.size,1,none⟩=some (.int .i64 0):=by rw [← hY];exact World.cell?_alloc_new _ _ _ _
          have q2:Y.cell? ⟨w.heap.size,2,none⟩=some (.string ⟨#[]⟩):=by rw [← hY];exact World.cell?_alloc_new _ _ _ _
          have hf:∀ j,Y.frozen? ⟨w.heap.size,j,none⟩=false:=fun j=>by rw [← hY];exact frozen_of_heap (heap_alloc_new w _) j
          have hconv:∀ W:World,W.heap=Y.heap→(convert 31 9 (.slice (some ⟨g,o+3,none⟩) m m)).run Tryz.prog W=.ok (.string ⟨((b.drop 3).take m).toArray⟩) W:=fun W e =>
            conv_in g (o+3) m m ((b.drop 3).take m) W ((HD.out.cast e).take _) ld
          refine wp_region_still_tail 13 (by kernel_rfl) (by kernel_rfl) ?_
          simp only [List.take_succ_cons,List.take_zero,List.drop_succ_cons,List.drop_zero]
          iterate 11 still_step
          refine wpStill_step (fun K hK=>?_)
          go_simp
          rw [hconv Y.drew rfl]
          go_simp
          refine hK _ ?_
          clear hK K
          still_step
          refine wpStill_nil ?_
          go_wp2
          generalize hZ:(((Y.setCell ⟨w.heap.size,0,none⟩ (.int .i64 x.toNat)).setCell ⟨w.heap.size,1,none⟩ (.int .i64 y.toNat)).setCell ⟨w.heap.size,2,none⟩ (.string ⟨((b.drop 3).take m).toArray⟩)).drew=Z
          have bz:Hid (Below w.heap.size w Z):=by
            show Below _ _ _
            rw [← hZ,← hY]
            exact (((((Below.refl _ w).alloc (Nat.le_refl _) _).setCell (p:=⟨w.heap.size,0,none⟩) (Nat.le_refl _) _).setCell (p:=⟨w.heap.size,1,none⟩) (Nat.le_refl _) _).setCell (p:=⟨w.heap.size,2,none⟩) (Nat.le_refl _) _).drew
          have hZb:Z.heap[w.heap.size]?=some (.cells #[.int .i64 x.toNat,.int .i64 y.toNat,.string ⟨((b.drop 3).take m).toArray⟩] 27 (0,0)):=by
            have h:=heap_setCell (heap_setCell (heap_setCell (heap_alloc_new w (.cells #[.int .i64 0,.int .i64 0,.string ⟨#[]⟩] 27)) 0 (.int .i64 x.toNat)) 1 (.int .i64 y.toNat)) 2 (.string ⟨((b.drop 3).take m).toArray⟩)
            rw [hY] at h
            rw [← hZ];exact h
          clear q0 q1 q2 hf y0 y1 hconv
          have q0:Z.cell? ⟨w.heap.size,0,none⟩=some (.int .i64 x.toNat):=cell_of_heap hZb 0
          have q1:Z.cell? ⟨w.heap.size,1,none⟩=some (.int .i64 y.toNat):=cell_of_heap hZb 1
          have q2:Z.cell? ⟨w.heap.size,2,none⟩=some (.string ⟨((b.drop 3).take m).toArray⟩):=cell_of_heap hZb 2
          have hf:∀ j,Z.frozen? ⟨w.heap.size,j,none⟩=false:=fun j=>frozen_of_heap hZb j
          have HZ:=hid hZb
          clear hZ hY hZb HD
          refine wp_region_any (by kernel_rfl) ?_
          try (change wpAny _ _ _ _ _ _ _ (World.drew _))
          refine tA 1 ?_
          try simp only [lA,lB,lC,Act.put,lD,lE,lF]
          refine tA 2 ?_
          try simp only [lA,lB,lC,Act.put,lD,lE,lF]
          refine tA 3 ?_
          try simp only [lA,lB,lC,Act.put,lD,lE,lF]
          refine wpAny_ready (rs:=[0]) (by kernel_rfl) (by simp) ?_
          refine AllReady.cons rfl (fun K hK=>?_) AllReady.nil
          go_simp
          refine hK _ _ ?_
          clear hK K
          refine wpAny_ready (rs:=[4]) (by kernel_rfl) (by simp) ?_
          refine AllReady.cons rfl (fun K hK=>?_) AllReady.nil
          go_simp
          refine hK _ _ ?_
          clear hK K
          refine wpAny_ready (rs:=[5]) (by kernel_rfl) (by simp) ?_
          refine AllReady.cons rfl (fun K hK=>?_) AllReady.nil
          go_simp
          refine hK _ _ ?_
          clear hK K
          refine wpAny_ready (rs:=[6]) (by kernel_rfl) (by simp) ?_
          refine AllReady.cons rfl (fun K hK=>?_) AllReady.nil
          go_simp
          refine hK _ _ ?_
          clear hK K
          refine wpAny_done (by kernel_rfl) ?_ _
          go_wp2
          refine bodyPost_ret (v:=.tuple #[.agg #[.int .i64 x.toNat,.int .i64 y.toNat,.string ⟨((b.drop 3).take m).toArray⟩],.slice (some ⟨g,o+3,none⟩) 0 0,.bool true]) (by simp [results,Tryz.results118,go_sem,q0,q1,q2,hf]) rfl (took_yes HYY.out rfl ?_ ?_ ?_ ?_)
          · have:=HM.out;omega
          · rw [List.drop_eq_nil_of_le (by have:=HM.out;omega)];exact BytesIn.nil _ _
          · exact Nat.le_refl _
          · exact (((bz.out.setCell (p:=⟨w.heap.size,0,none⟩) (Nat.le_refl _) _).setCell (p:=⟨w.heap.size,1,none⟩) (Nat.le_refl _) _).setCell (p:=⟨w.heap.size,2,none⟩) (Nat.le_refl _) _).drew
        · have lz:(k:Int)≤(c3:Int):=by omega
          have lz2:(k:Int)≤(m:Int):=by omega
          generalize hY:w.alloc (.cells #[.int .i64 0,.int .i64 0,.string ⟨#[]⟩] 27)=Y at HD ⊢
          have y0:Y.cell? ⟨g,o,none⟩=some (.int .u8 x.toNat):=by rw [← hY,World.cell?_alloc_past _ _ _ hg];exact c0
          have y1:Y.cell? ⟨g,o+1,none⟩=some (.int .u8 y.toNat):=by rw [← hY,World.cell?_alloc_past _ _ _ hg];exact c1
          have q0:Y.cell? ⟨w.heap.size,0,none⟩=some (.int .i64 0):=by rw [← hY];exact World.cell?_alloc_new _ _ _ _
          have q1:Y.cell? ⟨w.heap.size,1,none⟩=some (.int .i64 0):=by rw [← hY];exact World.cell?_alloc_new _ _ _ _
          have q2:Y.cell? ⟨w.heap.size,2,none⟩=some (.string ⟨#[]⟩):=by rw [← hY];exact World.cell?_alloc_new _ _ _ _
          have hf:∀ j,Y.frozen? ⟨w.heap.size,j,none⟩=false:=fun j=>by rw [← hY];exact frozen_of_heap (heap_alloc_new w _) j
          have hconv:∀ W:World,W.heap=Y.heap→(convert 31 9 (.slice (some ⟨g,o+3,none⟩) k c3)).run Tryz.prog W=.ok (.string ⟨((b.drop 3).take k).toArray⟩) W:=fun W e =>
            conv_in g (o+3) k c3 ((b.drop 3).take k) W ((HD.out.cast e).take _) ld
          refine wp_region_still_tail 13 (by kernel_rfl) (by kernel_rfl) ?_
          simp only [List.take_succ_cons,List.take_zero,List.drop_succ_cons,List.drop_zero]
          iterate 11 still_step
          refine wpStill_step (fun K hK=>?_)
          go_simp
          rw [hconv Y.drew rfl]
          go_simp
          refine hK _ ?_
          clear hK K
          still_step
          refine wpStill_nil ?_
          go_wp2
          generalize hZ:(((Y.setCell ⟨w.heap.size,0,none⟩ (.int .i64 x.toNat)).setCell ⟨w.heap.size,1,none⟩ (.int .i64 y.toNat)).setCell ⟨w.heap.size,2,none⟩ (.string ⟨((b.drop 3).take k).toArray⟩)).drew=Z
          have bz:Hid (Below w.heap.size w Z):=by
            show Below _ _ _
            rw [← hZ,← hY]
            exact (((((Below.refl _ w).alloc (Nat.le_refl _) _).setCell (p:=⟨w.heap.size,0,none⟩) (Nat.le_refl _) _).setCell (p:=⟨w.heap.size,1,none⟩) (Nat.le_refl _) _).setCell (p:=⟨w.heap.size,2,none⟩) (Nat.le_refl _) _).drew
          have hZb:Z.heap[w.heap.size]?=some (.cells #[.int .i64 x.toNat,.int .i64 y.toNat,.string ⟨((b.drop 3).take k).toArray⟩] 27 (0,0)):=by
            have h:=heap_setCell (heap_setCell (heap_setCell (heap_alloc_new w (.cells #[.int .i64 0,.int .i64 0,.string ⟨#[]⟩] 27)) 0 (.int .i64 x.toNat)) 1 (.int .i64 y.toNat)) 2 (.string ⟨((b.drop 3).take k).toArray⟩)
            rw [hY] at h
            rw [← hZ];exact h
          clear q0 q1 q2 hf y0 y1 hconv
          have q0:Z.cell? ⟨w.heap.size,0,none⟩=some (.int .i64 x.toNat):=cell_of_heap hZb 0
          have q1:Z.cell? ⟨w.heap.size,1,none⟩=some (.int .i64 y.toNat):=cell_of_heap hZb 1
          have q2:Z.cell? ⟨w.heap.size,2,none⟩=some (.string ⟨((b.drop 3).take k).toArray⟩):=cell_of_heap hZb 2
          have hf:∀ j,Z.frozen? ⟨w.heap.size,j,none⟩=false:=fun j=>frozen_of_heap hZb j
          have HZ:=hid hZb
          clear hZ hY hZb HD
          refine wp_region_any (by kernel_rfl) ?_
          try (change wpAny _ _ _ _ _ _ _ (World.drew _))
          refine tA 1 ?_
          try simp only [lA,lB,lC,Act.put,lD,lE,lF]
          refine tA 2 ?_
          try simp only [lA,lB,lC,Act.put,lD,lE,lF]
          refine tA 3 ?_
          try simp only [lA,lB,lC,Act.put,lD,lE,lF]
          refine wpAny_ready (rs:=[0]) (by kernel_rfl) (by simp) ?_
          refine AllReady.cons rfl (fun K hK=>?_) AllReady.nil
          go_simp
          refine hK _ _ ?_
          clear hK K
          refine wpAny_ready (rs:=[4]) (by kernel_rfl) (by simp) ?_
          refine AllReady.cons rfl (fun K hK=>?_) AllReady.nil
          go_simp
          refine hK _ _ ?_
          clear hK K
          refine wpAny_ready (rs:=[5]) (by kernel_rfl) (by simp) ?_
          refine AllReady.cons rfl (fun K hK=>?_) AllReady.nil
          go_simp
          refine hK _ _ ?_
          clear hK K
          refine wpAny_ready (rs:=[6]) (by kernel_rfl) (by simp) ?_
          refine AllReady.cons rfl (fun K hK=>?_) AllReady.nil
          go_simp
          refine hK _ _ ?_
          clear hK K
          refine wpAny_done (by kernel_rfl) ?_ _
          go_wp2
          refine bodyPost_ret (v:=.tuple #[.agg #[.int .i64 x.toNat,.int .i64 y.toNat,.string ⟨((b.drop 3).take k).toArray⟩],.slice (some ⟨g,o+3+k,none⟩) (m - k) (c3 - k),.bool true]) (by simp [results,Tryz.results118,go_sem,q0,q1,q2,hf]) rfl (took_yes HYY.out rfl ?_ ?_ ?_ ?_)
          · have:=HM.out;omega
          · have:=HB0.out.drop (3+k);rw [← Nat.add_assoc] at this;exact this
          · omega
          · exact (((bz.out.setCell (p:=⟨w.heap.size,0,none⟩) (Nat.le_refl _) _).setCell (p:=⟨w.heap.size,1,none⟩) (Nat.le_refl _) _).setCell (p:=⟨w.heap.size,2,none⟩) (Nat.le_refl _) _).drew
end
end Go.Proofs.YtolififimldmlaaGreat
