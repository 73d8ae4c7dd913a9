import Derived.Test.YtolififimldmlaaGreatPart13
set_option linter.unusedVariables false
set_option linter.unusedSimpArgs false
set_option maxRecDepth 100000
set_option maxHeartbeats 16000000
namespace Go.Proofs.YtolififimldmlaaGreat
section
open Go.RowKit
attribute [local go_sem ↓] Go.wp_at_zero Go.wp_at_succ
def ReadM (w:World) (s:List UInt8) (e:Ending) (w':World):Prop :=
  ∃ g c,e=.returned (.tuple #[(readD s).1.val (g.map fun k=>(⟨k,0,none⟩:Addr)) c,.int .i64 (readD s).2])∧OwnLines w w' g c (readD s).1.ls∧Below w.heap.size w w'
theorem readRet {Q:Ending→World→Prop} {a:Act} {W:World} {B:Nat} {fz:Nat × Nat} {v0 v1 v2:Value} {er:Int} (hB:W.heap[B]?=some (.cells #[v0,v1,v2] 176 fz))
    (ht:a.tmps[2]?=some (.pointer (some ⟨B,0,none⟩))) (he:a.tmps[3]?=some (.int .i64 er)) (hd:a.defers=[]) (hq:Q (.returned (.tuple #[.agg #[v0,v1,v2],.int .i64 er])) W):bodyPost Tryz.prog Tryz.f98 Q Exit.ret a W:=by
  have c0:W.cell? ⟨B,0,none⟩=some v0:=(cell_of_heap hB 0).trans rfl
  have c1:W.cell? ⟨B,1,none⟩=some v1:=(cell_of_heap hB 1).trans rfl
  have c2:W.cell? ⟨B,2,none⟩=some v2:=(cell_of_heap hB 2).trans rfl
  exact bodyPost_ret (v:=.tuple #[.agg #[v0,v1,v2],.int .i64 er]) (by simp [results,Tryz.results98,go_sem,ht,he,c0,c1,c2]) hd hq
theorem alloc_keep1 {w:World} {B:Nat} {o o':Obj} (h:w.heap[B]?=some o):(w.alloc o').heap[B]?=some o:=by rw [Below.heap_alloc _ _ _ (heap_lt h)];exact h
structure RAt (w:World) (s:List UInt8) (R B:Nat) (wr:World) (k:Nat) (m:Mm) (g:Option Nat) (c f:Nat):Prop where
  at_:readD s=readF s f m k
  fuel:s.length+1≤f+k
  box:MBox B 176 (.int .i64 m.view) (.int .i64 m.last) (.slice (g.map fun x=>⟨x,0,none⟩) m.ls.length c) wr
  res:MBox R 176 (.int .i64 0) (.int .i64 0) (.slice none 0 0) wr
  own:OwnLines w wr g c m.ls
  bel:Below w.heap.size w wr
  few:m.ls.length≤20
  nB:g≠some B
  nR:g≠some R
theorem read_any (s:List UInt8) (w:World) (hn:s.length≤10000000):Calls Tryz.prog 98 #[.string ⟨s.toArray⟩] w (ReadM w s):=by
  go_enter Tryz.func98,Tryz.ntmps98
  go_wp2
  have HI0:Hid (RAt w s w.heap.size (w.heap.size+1) ((w.alloc (.cells #[.int .i64 0,.int .i64 0,.slice none 0 0] 176)).alloc (.cells #[.int .i64 0,.int .i64 0,.slice none 0 0] 176)) 0 Mm.zero none 0 (s.length+1)) :=
    ⟨rfl,by omega,heap_alloc2 w _ _ _,MBox.below (heap_alloc_new w _) ((Below.refl _ _).alloc (Nat.le_refl _) _),OwnLines.none_ _ _,((Below.refl _ _).alloc (Nat.le_refl _) _).alloc (by simp) _,(by show 0≤20;omega),fun e=>(by cases e),fun e=>(by cases e)⟩
  have hRB:w.heap.size≠w.heap.size+1:=by omega
  have hRw:w.heap.size≤w.heap.size+1:=by omega
  go_loopw [5] (fun av wr=>∃ (k:Nat) (m:Mm) (g:Option Nat) (c f:Nat),k≤s.length∧av=.int .i64 k∧Hid (RAt w s w.heap.size (w.heap.size+1) wr k m g c f)) (fun av _=>s.length - (intOf av).toNat)
  case atStart=>exact ⟨0,Mm.zero,none,0,s.length+1,Nat.zero_le _,rfl,HI0.out⟩
  case round =>
    obtain ⟨k,m,g,c,f,hk,rfl,HI⟩:=hrel
    clear HI0
    have hBw:Hid (w.heap.size≤w.heap.size+1):=hRw
    generalize w.heap.size+1=B at *
    obtain ⟨b0,b1,b2,fb⟩:=mbox_cells HI.out.box
    obtain ⟨r0,r1,r2,fr⟩:=mbox_cells HI.out.res
    by_cases hlt:k < s.length
    · have ik:∀ h,(⟨s.toArray⟩:ByteArray)[k]'h=s.getD k 0:=fun h=>by rw [getD_at s k 0 hlt];rfl
      have HZ:Hid ((s.drop k).getD 0 0=s.getD k 0):=by show _=_;simp [List.getD]
      have HDL:Hid ((s.drop k).length=s.length - k):=List.length_drop
      have HX1:Hid (∀ e,k+2≤e→(⟨s.toArray⟩:ByteArray).extract k (e - 2)=⟨((s.drop k).take (e - 2 - k)).toArray⟩):=fun e _=>extr _ _ _
      generalize s.getD k 0=z at ik HZ
      have hz:z.toNat < 256:=z.toNat_lt
      have hki:(0:Int)≤(k:Int):=by omega
      have hki2:(k:Int) < (s.length:Int):=by omega
      rcases Nat.lt_or_ge s.length (k+3+z.toNat) with hle | hle
      · have HE:Hid (readD s=(m,k)):=by
          show _=_
          rw [HI.out.at_]
          exact readF_stop (by unfold recOf;rw [if_neg (by have:=HDL.out;omega),HZ.out,if_pos (by have:=HDL.out;omega)]) f
        go_wp2
        rw [show ((k:Int)+3+(z.toNat:Int))=((k+3+z.toNat:Nat):Int) from by omega]
        generalize hE:k+3+z.toNat=E at *
        have hgt:(s.length:Int) < (E:Int):=by omega
        clear ik
        refine wp_region_any (by kernel_rfl) ?_
        try (change wpAny _ _ _ _ _ _ _ (World.drew _))
        refine tA 0 ?_
        try simp only [lA,lB,lC,Act.put,lD,lE,lF]
        refine tA 1 ?_
        try simp only [lA,lB,lC,Act.put,lD,lE,lF]
        refine tA 2 ?_
        try simp only [lA,lB,lC,Act.put,lD,lE,lF]
        refine tA 3 ?_
        try simp only [lA,lB,lC,Act.put,lD,lE,lF]
        refine tA 4 ?_
        try simp only [lA,lB,lC,Act.put,lD,lE,lF]
        refine sA 5 ?_
        try simp only [lA,lB,lC,Act.put,lD,lE,lF]
        refine sA 6 ?_
        try simp only [lA,lB,lC,Act.put,lD,lE,lF]
        refine sA 7 ?_
        try simp only [lA,lB,lC,Act.put,lD,lE,lF]
        refine sA 8 ?_
        try simp only [lA,lB,lC,Act.put,lD,lE,lF]
        refine sA 9 ?_
        try simp only [lA,lB,lC,Act.put,lD,lE,lF]
        refine sA 10 ?_
        try simp only [lA,lB,lC,Act.put,lD,lE,lF]
        refine sA 11 ?_
        try simp only [lA,lB,lC,Act.put,lD,lE,lF]
        refine sA 12 ?_
        try simp only [lA,lB,lC,Act.put,lD,lE,lF]
        refine sA 13 ?_
        try simp only [lA,lB,lC,Act.put,lD,lE,lF]
        refine sA 14 ?_
        try simp only [lA,lB,lC,Act.put,lD,lE,lF]
        refine sA 15 ?_
        try simp only [lA,lB,lC,Act.put,lD,lE,lF]
        refine tA 16 ?_
        try simp only [lA,lB,lC,Act.put,lD,lE,lF]
        refine wpAny_done (by kernel_rfl) ?_ _
        go_wp2
        refine readRet (mset2 (mset1 (mset0 (show MBox _ _ _ _ _ wr.drew from HI.out.res) _) _) _) rfl rfl rfl ⟨g,c,?_,?_,?_⟩
        · rw [HE.out];rfl
        · rw [HE.out];exact (((HI.out.own.below ((Below.refl _ _).drew)).setOther w.heap.size 0 _ HI.out.nR).setOther w.heap.size 1 _ HI.out.nR).setOther w.heap.size 2 _ HI.out.nR
        · exact ((HI.out.bel.drew.setCell (p:=⟨w.heap.size,0,none⟩) (Nat.le_refl _) _).setCell (p:=⟨w.heap.size,1,none⟩) (Nat.le_refl _) _).setCell (p:=⟨w.heap.size,2,none⟩) (Nat.le_refl _) _
      · go_wp2
        rw [show ((k:Int)+3+(z.toNat:Int))=((k+3+z.toNat:Nat):Int) from by omega]
        have HEZ:Hid (k+3+z.toNat - 2=k+1+z.toNat):=by show _=_;omega
        generalize hE:k+3+z.toNat=E at *
        generalize hE2:k+1+z.toNat=E2 at *
        have e2:(E:Int) - 2=(E2:Int):=by omega
        have hng:¬ ((s.length:Int) < (E:Int)):=by omega
        have l1:(k:Int)≤(E2:Int):=by omega
        have l2:(E2:Int)≤(s.length:Int):=by omega
        have l3:(k:Int)≤(E:Int):=by omega
        have l4:(E:Int)≤(s.length:Int):=by omega
        have we2:IntKind.i64.wrap (E2:Int)=(E2:Int):=by rw [IntWalk.i64_left,IntWalk.wrap64_in _ (by omega)]
        have l5:(0:Int)≤(E2:Int):=by omega
        have x1:=extr s k E2
        have x2:=extr s k E
        clear ik
        refine wp_region_any (by kernel_rfl) ?_
        try (change wpAny _ _ _ _ _ _ _ (World.drew _))
        refine tA 0 ?_
        try simp only [lA,lB,lC,Act.put,lD,lE,lF]
        refine tA 1 ?_
        try simp only [lA,lB,lC,Act.put,lD,lE,lF]
        refine tA 2 ?_
        try simp only [lA,lB,lC,Act.put,lD,lE,lF]
        refine tA 3 ?_
        try simp only [lA,lB,lC,Act.put,lD,lE,lF]
        refine tA 4 ?_
        try simp only [lA,lB,lC,Act.put,lD,lE,lF]
        refine tA 5 ?_
        try simp only [lA,lB,lC,Act.put,lD,lE,lF]
        refine tA 6 ?_
        try simp only [lA,lB,lC,Act.put,lD,lE,lF]
        refine tA 7 ?_
        try simp only [lA,lB,lC,Act.put,lD,lE,lF]
        refine tA 8 ?_
        try simp only [lA,lB,lC,Act.put,lD,lE,lF]
        refine tA 9 ?_
        try simp only [lA,lB,lC,Act.put,lD,lE,lF]
        refine tA 11 ?_
        try simp only [lA,lB,lC,Act.put,lD,lE,lF]
        refine tA 12 ?_
        try simp only [lA,lB,lC,Act.put,lD,lE,lF]
        refine tA 13 ?_
        try simp only [lA,lB,lC,Act.put,lD,lE,lF]
        refine tA 14 ?_
        try simp only [lA,lB,lC,Act.put,lD,lE,lF]
        refine wpAny_ready (rs:=[10]) (by kernel_rfl) (by simp) ?_
        refine AllReady.cons rfl (fun K hK=>?_) AllReady.nil
        go_simp
        refine (checked_any _ _ (by rw [List.length_take];omega)).mono ?_
        rintro e w2 ⟨rfl,hb2'⟩
        have hb2:Below wr.heap.size wr w2:=(Below.refl _ wr).drew.trans hb2'
        clear hb2'
        have HI2:Hid (RAt w s w.heap.size B w2 k m g c f):=⟨HI.out.at_,HI.out.fuel,HI.out.box.below hb2,HI.out.res.below hb2,HI.out.own.below hb2,HI.out.bel.trans (hb2.mono HI.out.bel.size),HI.out.few,HI.out.nB,HI.out.nR⟩
        clear hb2 b0 b1 b2 fb r0 r1 r2 fr
        obtain ⟨b0,b1,b2,fb⟩:=mbox_cells HI2.out.box
        obtain ⟨r0,r1,r2,fr⟩:=mbox_cells HI2.out.res
        have HREC:Hid (recOf (s.drop k)=if withChk ((s.drop k).take (E2 - k))=(s.drop k).take (E - k) then some ((s.drop (k+1)).take (E2 - (k+1)),z.toNat+3) else none):=by
          show _=_
          have hl:=HDL.out
          have e1:E - k=z.toNat+3:=by omega
          have e3:E2 - k=z.toNat+3 - 2:=by omega
          have e4:E2 - (k+1)=z.toNat:=by omega
          unfold recOf
          rw [if_neg (by omega),HZ.out,if_neg (by omega),e1,e3,e4,List.drop_drop]
          have hs:=strip_iff ((s.drop k).take (z.toNat+3)) (by rw [List.length_take];omega)
          rw [List.length_take,Nat.min_eq_left (by omega),List.take_take,Nat.min_eq_left (by omega)] at hs
          by_cases hq:stripOk ((s.drop k).take (z.toNat+3))=true
          · rw [if_pos hq,if_pos (hs.1 hq)]
          · rw [if_neg hq,if_neg (fun h=>hq (hs.2 h))]
        have HIL:Hid (((s.drop (k+1)).take (E2 - (k+1))).length≤256):=by show _≤_;rw [List.length_take];omega
        clear x1 x2
        have x3:=extr s (k+1) E2
        generalize (s.drop (k+1)).take (E2 - (k+1))=IN at HREC HIL x3
        generalize (s.drop k).take (E2 - k)=L1 at HREC ⊢
        generalize (s.drop k).take (E - k)=L2 at HREC ⊢
        by_cases heq:withChk L1=L2
        · have HREC2:Hid (recOf (s.drop k)=some (IN,z.toNat+3)):=by show _=_;rw [HREC.out,if_pos heq]
          rw [heq]
          clear heq HREC
          go_simp
          refine hK _ _ ?_
          clear hK K
          refine tA 15 ?_
          try simp only [lA,lB,lC,Act.put,lD,lE,lF]
          refine tA 16 ?_
          try simp only [lA,lB,lC,Act.put,lD,lE,lF]
          refine wpAny_done (by kernel_rfl) ?_ _
          go_wp2
          have hBl2:B < w2.heap.size:=heap_lt HI2.out.box
          have HMV:Hid (m.val (g.map fun x=>(⟨x,0,none⟩:Addr)) c=.agg #[.int .i64 m.view,.int .i64 m.last,.slice (g.map fun x=>⟨x,0,none⟩) m.ls.length c]):=rfl
          have wk1:IntKind.i64.wrap ((k:Int)+1)=(k:Int)+1:=by rw [IntWalk.i64_left,IntWalk.wrap64_in _ (by omega)]
          have lk1:(k:Int)+1≤(E2:Int):=by omega
          have lk0:(0:Int)≤(k:Int)+1:=by omega
          refine wp_region_any (by kernel_rfl) ?_
          try (change wpAny _ _ _ _ _ _ _ (World.drew _))
          refine tA 1 ?_
          try simp only [lA,lB,lC,Act.put,lD,lE,lF]
          refine tA 2 ?_
          try simp only [lA,lB,lC,Act.put,lD,lE,lF]
          refine tA 3 ?_
          try simp only [lA,lB,lC,Act.put,lD,lE,lF]
          refine tA 4 ?_
          try simp only [lA,lB,lC,Act.put,lD,lE,lF]
          refine tA 5 ?_
          try simp only [lA,lB,lC,Act.put,lD,lE,lF]
          refine tA 6 ?_
          try simp only [lA,lB,lC,Act.put,lD,lE,lF]
          refine wpAny_ready (rs:=[0,11]) (by kernel_rfl) (by simp) ?_
          refine AllReady.cons rfl (fun K hK=>?_) (AllReady.cons rfl (fun K hK=>?_) AllReady.nil)
          · go_simp
            refine hK _ _ ?_
            clear hK K
            refine wpAny_ready (rs:=[7,11]) (by kernel_rfl) (by simp) ?_
            refine AllReady.cons rfl (fun K hK=>?_) (AllReady.cons rfl (fun K hK=>?_) AllReady.nil)
            · skip
              go_simp
              rw [← HMV.out]
              refine (does_any m (g.map fun x=>(⟨x,0,none⟩:Addr)) c IN _ (by exact HI2.out.own.at_.below ((Below.refl _ _).drew)) HI.out.few (by have:=HIL.out;omega)).mono ?_
              rintro e w4 ⟨hb4,hdd⟩
              have HB4:=hid hb4
              have hb24:Below w2.heap.size w2 w4:=(Below.refl _ w2).drew.trans HB4.out
              have R4:=hid (HI2.out.res.below hb24)
              have B4:=hid (HI2.out.box.below hb24)
              have O4:=hid (HI2.out.own.below hb24)
              have W4:=hid (HI2.out.bel.trans (hb24.mono HI2.out.bel.size))
              clear hb24 b0 b1 b2 fb r0 r1 r2 fr hb4
              obtain ⟨b0,b1,b2,fb⟩:=mbox_cells B4.out
              obtain ⟨r0,r1,r2,fr⟩:=mbox_cells R4.out
              have hBl:B < w4.heap.size:=heap_lt B4.out
              have hRl:w.heap.size < w4.heap.size:=heap_lt R4.out
              rcases hdd with ⟨hd,rfl⟩ | ⟨m',g2,c2,hd,rfl,hol⟩
              · have HD:=hid hd
                have HE:Hid (readD s=(m,k)):=by show _=_;rw [HI.out.at_];exact readF_no HREC2.out HD.out f
                clear hd
                rw [HMV.out]
                go_simp
                refine hK _ _ ?_
                clear hK K
                refine tA 8 ?_
                try simp only [lA,lB,lC,Act.put,lD,lE,lF]
                refine tA 9 ?_
                try simp only [lA,lB,lC,Act.put,lD,lE,lF]
                refine tA 10 ?_
                try simp only [lA,lB,lC,Act.put,lD,lE,lF]
                refine wpAny_ready (rs:=[11]) (by kernel_rfl) (by simp) ?_
                refine AllReady.cons rfl (fun K hK=>?_) AllReady.nil
                go_simp
                refine hK _ _ ?_
                clear hK K
                refine wpAny_ready (rs:=[12]) (by kernel_rfl) (by simp) ?_
                refine AllReady.cons rfl (fun K hK=>?_) AllReady.nil
                go_simp
                refine hK _ _ ?_
                clear hK K
                refine wpAny_ready (rs:=[13]) (by kernel_rfl) (by simp) ?_
                refine AllReady.cons rfl (fun K hK=>?_) AllReady.nil
                go_simp
                refine hK _ _ ?_
                clear hK K
                refine wpAny_done (by kernel_rfl) ?_ _
                go_wp2
                refine readRet (alloc_keep1 (mset2 (mset1 (mset0 R4.out _) _) _)) rfl rfl rfl ⟨g,c,?_,?_,?_⟩
                · rw [HE.out];rfl
                · rw [HE.out];exact (((O4.out.setOther w.heap.size 0 _ HI.out.nR).setOther w.heap.size 1 _ HI.out.nR).setOther w.heap.size 2 _ HI.out.nR).below ((Below.refl _ _).alloc (Nat.le_refl _) _)
                · exact (((W4.out.setCell (p:=⟨w.heap.size,0,none⟩) (Nat.le_refl _) _).setCell (p:=⟨w.heap.size,1,none⟩) (Nat.le_refl _) _).setCell (p:=⟨w.heap.size,2,none⟩) (Nat.le_refl _) _).alloc (by simp only [size_setCell];exact W4.out.size) _
              · have HD:=hid hd
                have HOL:=hid hol
                obtain ⟨f',hf1,hf2⟩:=readF_step HI.out.fuel HREC2.out hd
                have hkE:k+(z.toNat+3)=E:=by omega
                rw [hkE] at hf1 hf2
                have HF1:=hid (HI.out.at_.trans hf1)
                have HF2:=hid hf2
                have hbase:Hid (w.heap.size≤w2.heap.size):=HI2.out.bel.size
                have hgB2:Hid (g2≠some B):=fun e=>by have:=HOL.out.new _ e;have:=heap_lt HI2.out.box;first | omega | (simp at *;omega)
                have hgR2:Hid (g2≠some w.heap.size):=fun e=>by have:=HOL.out.new _ e;have:=heap_lt HI2.out.res;first | omega | (simp at *;omega)
                clear hd hol hf1 hf2 hkE
                have HMV2:Hid (m'.val (g2.map fun x=>(⟨x,0,none⟩:Addr)) c2=.agg #[.int .i64 m'.view,.int .i64 m'.last,.slice (g2.map fun x=>⟨x,0,none⟩) m'.ls.length c2]):=rfl
                rw [HMV2.out]
                go_simp
                refine hK _ _ ?_
                clear hK K
                refine tA 8 ?_
                try simp only [lA,lB,lC,Act.put,lD,lE,lF]
                refine tA 9 ?_
                try simp only [lA,lB,lC,Act.put,lD,lE,lF]
                refine tA 10 ?_
                try simp only [lA,lB,lC,Act.put,lD,lE,lF]
                refine wpAny_ready (rs:=[11]) (by kernel_rfl) (by simp) ?_
                refine AllReady.cons rfl (fun K hK=>?_) AllReady.nil
                go_simp
                refine hK _ _ ?_
                clear hK K
                refine wpAny_ready (rs:=[12]) (by kernel_rfl) (by simp) ?_
                refine AllReady.cons rfl (fun K hK=>?_) AllReady.nil
                go_simp
                refine hK _ _ ?_
                clear hK K
                refine wpAny_ready (rs:=[13]) (by kernel_rfl) (by simp) ?_
                refine AllReady.cons rfl (fun K hK=>?_) AllReady.nil
                go_simp
                refine hK _ _ ?_
                clear hK K
                refine wpAny_done (by kernel_rfl) ?_ _
                go_wp2
                go_roundw
                case rel=>exact ⟨E,m',g2,c2,f',by omega,rfl,⟨HF1.out,HF2.out,(alloc_keep1 (mset2 (mset1 (mset0 B4.out _) _) _)),(alloc_keep1 (((R4.out.other hRB).other hRB).other hRB)),((((HOL.out.base hbase.out).setOther B 0 _ hgB2.out).setOther B 1 _ hgB2.out).setOther B 2 _ hgB2.out).below ((Below.refl _ _).alloc (Nat.le_refl _) _),(((W4.out.setCell (p:=⟨B,0,none⟩) hBw.out _).setCell (p:=⟨B,1,none⟩) hBw.out _).setCell (p:=⟨B,2,none⟩) hBw.out _).alloc (by simp only [size_setCell];exact W4.out.size) _,okM_len (doesM_ok HD.out),hgB2.out,hgR2.out⟩⟩
                case measure=>simp [intOf];omega
            · go_simp
              refine hK _ _ ?_
              clear hK K
              refine wpAny_ready (rs:=[7]) (by kernel_rfl) (by simp) ?_
              refine AllReady.cons rfl (fun K hK=>?_) AllReady.nil
              go_simp
              rw [← HMV.out]
              refine (does_any m (g.map fun x=>(⟨x,0,none⟩:Addr)) c IN _ (by exact HI2.out.own.at_.below (((Below.refl _ _).alloc (Nat.le_refl _) _).drew)) HI.out.few (by have:=HIL.out;omega)).mono ?_
              rintro e w4 ⟨hb4,hdd⟩
              have HB4:=hid hb4
              have hb24:Below w2.heap.size w2 w4:=((Below.refl _ w2).alloc (Nat.le_refl _) _).drew.trans (HB4.out.mono (by simp))
              have R4:=hid (HI2.out.res.below hb24)
              have B4:=hid (HI2.out.box.below hb24)
              have O4:=hid (HI2.out.own.below hb24)
              have W4:=hid (HI2.out.bel.trans (hb24.mono HI2.out.bel.size))
              clear hb24 b0 b1 b2 fb r0 r1 r2 fr hb4
              obtain ⟨b0,b1,b2,fb⟩:=mbox_cells B4.out
              obtain ⟨r0,r1,r2,fr⟩:=mbox_cells R4.out
              have hBl:B < w4.heap.size:=heap_lt B4.out
              have hRl:w.heap.size < w4.heap.size:=heap_lt R4.out
              have hT4:MBox w2.heap.size 176 (.int .i64 0) (.int .i64 0) (.slice none 0 0) w4:=MBox.below (x:=(w2.alloc (.cells #[.int .i64 0,.int .i64 0,.slice none 0 0] 176)).drew) (show MBox w2.heap.size 176 (.int .i64 0) (.int .i64 0) (.slice none 0 0) (w2.alloc (.cells #[.int .i64 0,.int .i64 0,.slice none 0 0] 176)) from heap_alloc_new w2 _) HB4.out
              obtain ⟨t0,t1,t2,ft⟩:=mbox_cells hT4
              have hTB:B≠w2.heap.size:=by have:=heap_lt HI2.out.box;omega
              have hTR:w.heap.size≠w2.heap.size:=by have:=heap_lt HI2.out.res;omega
              have hTw:w.heap.size≤w2.heap.size:=HI2.out.bel.size
              have HT4:=hid hT4
              clear hT4
              rcases hdd with ⟨hd,rfl⟩ | ⟨m',g2,c2,hd,rfl,hol⟩
              · have HD:=hid hd
                have HE:Hid (readD s=(m,k)):=by show _=_;rw [HI.out.at_];exact readF_no HREC2.out HD.out f
                have hgT:Hid (g≠some w2.heap.size):=fun e=>by have:=HI2.out.own.own.lt e;omega
                clear hd
                rw [HMV.out]
                go_simp
                refine hK _ _ ?_
                clear hK K
                refine tA 8 ?_
                try simp only [lA,lB,lC,Act.put,lD,lE,lF]
                refine tA 9 ?_
                try simp only [lA,lB,lC,Act.put,lD,lE,lF]
                refine tA 10 ?_
                try simp only [lA,lB,lC,Act.put,lD,lE,lF]
                refine wpAny_ready (rs:=[12]) (by kernel_rfl) (by simp) ?_
                refine AllReady.cons rfl (fun K hK=>?_) AllReady.nil
                go_simp
                refine hK _ _ ?_
                clear hK K
                refine wpAny_ready (rs:=[13]) (by kernel_rfl) (by simp) ?_
                refine AllReady.cons rfl (fun K hK=>?_) AllReady.nil
                go_simp
                refine hK _ _ ?_
                clear hK K
                refine wpAny_done (by kernel_rfl) ?_ _
                go_wp2
                refine readRet (mset2 (mset1 (mset0 (((R4.out.other hTR).other hTR).other hTR) _) _) _) rfl rfl rfl ⟨g,c,?_,?_,?_⟩
                · rw [HE.out];rfl
                · rw [HE.out];exact ((((((O4.out.setOther w2.heap.size 0 _ hgT.out).setOther w2.heap.size 1 _ hgT.out).setOther w2.heap.size 2 _ hgT.out).setOther w.heap.size 0 _ HI.out.nR).setOther w.heap.size 1 _ HI.out.nR).setOther w.heap.size 2 _ HI.out.nR)
                · exact ((((((W4.out.setCell (p:=⟨w2.heap.size,0,none⟩) hTw _).setCell (p:=⟨w2.heap.size,1,none⟩) hTw _).setCell (p:=⟨w2.heap.size,2,none⟩) hTw _).setCell (p:=⟨w.heap.size,0,none⟩) (Nat.le_refl _) _).setCell (p:=⟨w.heap.size,1,none⟩) (Nat.le_refl _) _).setCell (p:=⟨w.heap.size,2,none⟩) (Nat.le_refl _) _)
              · have HD:=hid hd
                have HOL:=hid hol
                obtain ⟨f',hf1,hf2⟩:=readF_step HI.out.fuel HREC2.out hd
                have hkE:k+(z.toNat+3)=E:=by omega
                rw [hkE] at hf1 hf2
                have HF1:=hid (HI.out.at_.trans hf1)
                have HF2:=hid hf2
                have hbase:Hid (w.heap.size≤w2.heap.size):=HI2.out.bel.size
                have hgB2:Hid (g2≠some B):=fun e=>by have:=HOL.out.new _ e;have:=heap_lt HI2.out.box;first | omega | (simp at *;omega)
                have hgR2:Hid (g2≠some w.heap.size):=fun e=>by have:=HOL.out.new _ e;have:=heap_lt HI2.out.res;first | omega | (simp at *;omega)
                have hgT2:Hid (g2≠some w2.heap.size):=fun e=>by have:=HOL.out.new _ e;simp at this;omega
                clear hd hol hf1 hf2 hkE
                have HMV2:Hid (m'.val (g2.map fun x=>(⟨x,0,none⟩:Addr)) c2=.agg #[.int .i64 m'.view,.int .i64 m'.last,.slice (g2.map fun x=>⟨x,0,none⟩) m'.ls.length c2]):=rfl
                rw [HMV2.out]
                go_simp
                refine hK _ _ ?_
                clear hK K
                refine tA 8 ?_
                try simp only [lA,lB,lC,Act.put,lD,lE,lF]
                refine tA 9 ?_
                try simp only [lA,lB,lC,Act.put,lD,lE,lF]
                refine tA 10 ?_
                try simp only [lA,lB,lC,Act.put,lD,lE,lF]
                refine wpAny_ready (rs:=[12]) (by kernel_rfl) (by simp) ?_
                refine AllReady.cons rfl (fun K hK=>?_) AllReady.nil
                go_simp
                refine hK _ _ ?_
                clear hK K
                refine wpAny_ready (rs:=[13]) (by kernel_rfl) (by simp) ?_
                refine AllReady.cons rfl (fun K hK=>?_) AllReady.nil
                go_simp
                refine hK _ _ ?_
                clear hK K
                refine wpAny_done (by kernel_rfl) ?_ _
                go_wp2
                go_roundw
                case rel=>exact ⟨E,m',g2,c2,f',by omega,rfl,⟨HF1.out,HF2.out,(mset2 (mset1 (mset0 (((B4.out.other hTB).other hTB).other hTB) _) _) _),((((((R4.out.other hTR).other hTR).other hTR).other hRB).other hRB).other hRB),(((((((HOL.out.base (Nat.le_trans hbase.out (by simp))).setOther w2.heap.size 0 _ hgT2.out).setOther w2.heap.size 1 _ hgT2.out).setOther w2.heap.size 2 _ hgT2.out).setOther B 0 _ hgB2.out).setOther B 1 _ hgB2.out).setOther B 2 _ hgB2.out),((((((W4.out.setCell (p:=⟨w2.heap.size,0,none⟩) hTw _).setCell (p:=⟨w2.heap.size,1,none⟩) hTw _).setCell (p:=⟨w2.heap.size,2,none⟩) hTw _).setCell (p:=⟨B,0,none⟩) hBw.out _).setCell (p:=⟨B,1,none⟩) hBw.out _).setCell (p:=⟨B,2,none⟩) hBw.out _),okM_len (doesM_ok HD.out),hgB2.out,hgR2.out⟩⟩
                case measure=>simp [intOf];omega
          · go_simp
            refine hK _ _ ?_
            clear hK K
            refine wpAny_ready (rs:=[0]) (by kernel_rfl) (by simp) ?_
            refine AllReady.cons rfl (fun K hK=>?_) AllReady.nil
            go_simp
            refine hK _ _ ?_
            clear hK K
            refine wpAny_ready (rs:=[7]) (by kernel_rfl) (by simp) ?_
            refine AllReady.cons rfl (fun K hK=>?_) AllReady.nil
            go_simp
            rw [← HMV.out]
            refine (does_any m (g.map fun x=>(⟨x,0,none⟩:Addr)) c IN _ (by exact HI2.out.own.at_.below (((Below.refl _ _).alloc (Nat.le_refl _) _).drew)) HI.out.few (by have:=HIL.out;omega)).mono ?_
            rintro e w4 ⟨hb4,hdd⟩
            have HB4:=hid hb4
            have hb24:Below w2.heap.size w2 w4:=((Below.refl _ w2).alloc (Nat.le_refl _) _).drew.trans (HB4.out.mono (by simp))
            have R4:=hid (HI2.out.res.below hb24)
            have B4:=hid (HI2.out.box.below hb24)
            have O4:=hid (HI2.out.own.below hb24)
            have W4:=hid (HI2.out.bel.trans (hb24.mono HI2.out.bel.size))
            clear hb24 b0 b1 b2 fb r0 r1 r2 fr hb4
            obtain ⟨b0,b1,b2,fb⟩:=mbox_cells B4.out
            obtain ⟨r0,r1,r2,fr⟩:=mbox_cells R4.out
            have hBl:B < w4.heap.size:=heap_lt B4.out
            have hRl:w.heap.size < w4.heap.size:=heap_lt R4.out
            have hT4:MBox w2.heap.size 176 (.int .i64 0) (.int .i64 0) (.slice none 0 0) w4:=MBox.below (x:=(w2.alloc (.cells #[.int .i64 0,.int .i64 0,.slice none 0 0] 176)).drew) (show MBox w2.heap.size 176 (.int .i64 0) (.int .i64 0) (.slice none 0 0) (w2.alloc (.cells #[.int .i64 0,.int .i64 0,.slice none 0 0] 176)) from heap_alloc_new w2 _) HB4.out
            obtain ⟨t0,t1,t2,ft⟩:=mbox_cells hT4
            have hTB:B≠w2.heap.size:=by have:=heap_lt HI2.out.box;omega
            have hTR:w.heap.size≠w2.heap.size:=by have:=heap_lt HI2.out.res;omega
            have hTw:w.heap.size≤w2.heap.size:=HI2.out.bel.size
            have HT4:=hid hT4
            clear hT4
            rcases hdd with ⟨hd,rfl⟩ | ⟨m',g2,c2,hd,rfl,hol⟩
            · have HD:=hid hd
              have HE:Hid (readD s=(m,k)):=by show _=_;rw [HI.out.at_];exact readF_no HREC2.out HD.out f
              have hgT:Hid (g≠some w2.heap.size):=fun e=>by have:=HI2.out.own.own.lt e;omega
              clear hd
              rw [HMV.out]
              go_simp
              refine hK _ _ ?_
              clear hK K
              refine tA 8 ?_
              try simp only [lA,lB,lC,Act.put,lD,lE,lF]
              refine tA 9 ?_
              try simp only [lA,lB,lC,Act.put,lD,lE,lF]
              refine tA 10 ?_
              try simp only [lA,lB,lC,Act.put,lD,lE,lF]
              refine wpAny_ready (rs:=[12]) (by kernel_rfl) (by simp) ?_
              refine AllReady.cons rfl (fun K hK=>?_) AllReady.nil
              go_simp
              refine hK _ _ ?_
              clear hK K
              refine wpAny_ready (rs:=[13]) (by kernel_rfl) (by simp) ?_
              refine AllReady.cons rfl (fun K hK=>?_) AllReady.nil
              go_simp
              refine hK _ _ ?_
              clear hK K
              refine wpAny_done (by kernel_rfl) ?_ _
              go_wp2
              refine readRet (mset2 (mset1 (mset0 (((R4.out.other hTR).other hTR).other hTR) _) _) _) rfl rfl rfl ⟨g,c,?_,?_,?_⟩
              · rw [HE.out];rfl
              · rw [HE.out];exact ((((((O4.out.setOther w2.heap.size 0 _ hgT.out).setOther w2.heap.size 1 _ hgT.out).setOther w2.heap.size 2 _ hgT.out).setOther w.heap.size 0 _ HI.out.nR).setOther w.heap.size 1 _ HI.out.nR).setOther w.heap.size 2 _ HI.out.nR)
              · exact ((((((W4.out.setCell (p:=⟨w2.heap.size,0,none⟩) hTw _).setCell (p:=⟨w2.heap.size,1,none⟩) hTw _).setCell (p:=⟨w2.heap.size,2,none⟩) hTw _).setCell (p:=⟨w.heap.size,0,none⟩) (Nat.le_refl _) _).setCell (p:=⟨w.heap.size,1,none⟩) (Nat.le_refl _) _).setCell (p:=⟨w.heap.size,2,none⟩) (Nat.le_refl _) _)
            · have HD:=hid hd
              have HOL:=hid hol
              obtain ⟨f',hf1,hf2⟩:=readF_step HI.out.fuel HREC2.out hd
              have hkE:k+(z.toNat+3)=E:=by omega
              rw [hkE] at hf1 hf2
              have HF1:=hid (HI.out.at_.trans hf1)
              have HF2:=hid hf2
              have hbase:Hid (w.heap.size≤w2.heap.size):=HI2.out.bel.size
              have hgB2:Hid (g2≠some B):=fun e=>by have:=HOL.out.new _ e;have:=heap_lt HI2.out.box;first | omega | (simp at *;omega)
              have hgR2:Hid (g2≠some w.heap.size):=fun e=>by have:=HOL.out.new _ e;have:=heap_lt HI2.out.res;first | omega | (simp at *;omega)
              have hgT2:Hid (g2≠some w2.heap.size):=fun e=>by have:=HOL.out.new _ e;simp at this;omega
              clear hd hol hf1 hf2 hkE
              have HMV2:Hid (m'.val (g2.map fun x=>(⟨x,0,none⟩:Addr)) c2=.agg #[.int .i64 m'.view,.int .i64 m'.last,.slice (g2.map fun x=>⟨x,0,none⟩) m'.ls.length c2]):=rfl
              rw [HMV2.out]
              go_simp
              refine hK _ _ ?_
              clear hK K
              refine tA 8 ?_
              try simp only [lA,lB,lC,Act.put,lD,lE,lF]
              refine tA 9 ?_
              try simp only [lA,lB,lC,Act.put,lD,lE,lF]
              refine tA 10 ?_
              try simp only [lA,lB,lC,Act.put,lD,lE,lF]
              refine wpAny_ready (rs:=[12]) (by kernel_rfl) (by simp) ?_
              refine AllReady.cons rfl (fun K hK=>?_) AllReady.nil
              go_simp
              refine hK _ _ ?_
              clear hK K
              refine wpAny_ready (rs:=[13]) (by kernel_rfl) (by simp) ?_
              refine AllReady.cons rfl (fun K hK=>?_) AllReady.nil
              go_simp
              refine hK _ _ ?_
              clear hK K
              refine wpAny_done (by kernel_rfl) ?_ _
              go_wp2
              go_roundw
              case rel=>exact ⟨E,m',g2,c2,f',by omega,rfl,⟨HF1.out,HF2.out,(mset2 (mset1 (mset0 (((B4.out.other hTB).other hTB).other hTB) _) _) _),((((((R4.out.other hTR).other hTR).other hTR).other hRB).other hRB).other hRB),(((((((HOL.out.base (Nat.le_trans hbase.out (by simp))).setOther w2.heap.size 0 _ hgT2.out).setOther w2.heap.size 1 _ hgT2.out).setOther w2.heap.size 2 _ hgT2.out).setOther B 0 _ hgB2.out).setOther B 1 _ hgB2.out).setOther B 2 _ hgB2.out),((((((W4.out.setCell (p:=⟨w2.heap.size,0,none⟩) hTw _).setCell (p:=⟨w2.heap.size,1,none⟩) hTw _).setCell (p:=⟨w2.heap.size,2,none⟩) hTw _).setCell (p:=⟨B,0,none⟩) hBw.out _).setCell (p:=⟨B,1,none⟩) hBw.out _).setCell (p:=⟨B,2,none⟩) hBw.out _),okM_len (doesM_ok HD.out),hgB2.out,hgR2.out⟩⟩
              case measure=>simp [intOf];omega
        · have HE:Hid (readD s=(m,k)):=by
            show _=_
            rw [HI.out.at_]
            exact readF_stop (by rw [HREC.out,if_neg heq]) f
          have hne:(withChk L1 == L2)=false:=beq_eq_false_iff_ne.2 heq
          go_simp
          refine hK _ _ ?_
          clear hK K
          refine tA 15 ?_
          try simp only [lA,lB,lC,Act.put,lD,lE,lF]
          refine tA 16 ?_
          try simp only [lA,lB,lC,Act.put,lD,lE,lF]
          refine wpAny_done (by kernel_rfl) ?_ _
          go_wp2
          refine readRet (mset2 (mset1 (mset0 HI2.out.res _) _) _) rfl rfl rfl ⟨g,c,?_,?_,?_⟩
          · rw [HE.out];rfl
          · rw [HE.out];exact ((HI2.out.own.setOther w.heap.size 0 _ HI.out.nR).setOther w.heap.size 1 _ HI.out.nR).setOther w.heap.size 2 _ HI.out.nR
          · exact ((HI2.out.bel.setCell (p:=⟨w.heap.size,0,none⟩) (Nat.le_refl _) _).setCell (p:=⟨w.heap.size,1,none⟩) (Nat.le_refl _) _).setCell (p:=⟨w.heap.size,2,none⟩) (Nat.le_refl _) _
    · have HE:Hid (readD s=(m,k)):=by
        show _=_
        rw [HI.out.at_]
        exact readF_stop (by unfold recOf;rw [if_pos (by rw [List.length_drop];omega)]) f
      go_wp2
      refine readRet (mset2 (mset1 (mset0 HI.out.res _) _) _) rfl rfl rfl ⟨g,c,?_,?_,?_⟩
      · rw [HE.out];rfl
      · rw [HE.out];exact ((HI.out.own.setOther w.heap.size 0 _ HI.out.nR).setOther w.heap.size 1 _ HI.out.nR).setOther w.heap.size 2 _ HI.out.nR
      · exact ((HI.out.bel.setCell (p:=⟨w.heap.size,0,none⟩) (Nat.le_refl _) _).setCell (p:=⟨w.heap.size,1,none⟩) (Nat.le_refl _) _).setCell (p:=⟨w.heap.size,2,none⟩) (Nat.le_refl _) _
structure OpG where
  kind:Int
  n:Int
  s:List UInt8
  f:Fr
  fa:Option Addr
  fc:Nat
  c1:Int
  c2:Int
  c3:Int
  a:Int
def OpG.cells (o:OpG):Array Value :=
  #[.int .i64 o.kind,.int .i64 o.n,.string ⟨o.s.toArray⟩,.int .i64 o.f.kind,.int .i64 o.f.frm,.int .i64 o.f.view,.int .i64 o.f.place,.int .i64 o.f.agreed,.int .i64 o.f.last,.int .i64 o.f.line.c,.int .i64 o.f.line.t,.string ⟨o.f.line.s.toArray⟩,sla o.fa o.f.lines.length o.fc,
    .int .i64 o.c1,.int .i64 o.c2,.int .i64 o.c3,.int .i64 o.a]
end
end Go.Proofs.YtolififimldmlaaGreat
