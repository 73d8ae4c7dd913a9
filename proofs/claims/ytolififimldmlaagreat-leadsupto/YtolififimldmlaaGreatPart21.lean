import Derived.Test.YtolififimldmlaaGreatPart20
set_option linter.unusedVariables false
set_option linter.unusedSimpArgs false
set_option maxRecDepth 100000
set_option maxHeartbeats 16000000
namespace Go.Proofs.YtolififimldmlaaGreat
section
open Go.RowKit
attribute [local go_sem ↓] Go.wp_at_zero Go.wp_at_succ
theorem afterView_go (m:Mm) (g:Option Nat) (c:Nat) (a:Option Addr) (n cap:Nat) (b:List UInt8) (wB w0 w:World) (hO:OwnLines wB w g c m.ls) (hb:BytesIn w0 a b) (hw:Below w0.heap.size w0 w) (hbl:b.length=n) (hn:b.length≤100000) (hcap:b.length≤cap) :
    Calls Tryz.prog 174 #[m.val (g.map fun k=>(⟨k,0,none⟩:Addr)) c,.slice a n cap] w (AfterRet wB w m g c (candV m b)):=by
  obtain ⟨view,last,ls⟩:=m
  dsimp only at hO
  have HO:=hid hO
  have HB:=hid (hb.below hw)
  have HBL:=hid hbl
  clear hO hb hw
  have HV:Hid ((Mm.mk view last ls).val (g.map fun k=>(⟨k,0,none⟩:Addr)) c=.agg #[.int .i64 view,.int .i64 last,.slice (g.map fun k=>⟨k,0,none⟩) ls.length c]):=rfl
  rw [HV.out]
  have HC:Hid (candV ⟨view,last,ls⟩ b=if b.length=1 then some ⟨(b.getD 0 0).toNat,last,ls⟩ else none):=rfl
  by_cases h1:n=1
  · obtain ⟨g0,o,rfl,hx0⟩:=HB.out 0 (by omega)
    clear hx0
    have hg0:g0 < w.heap.size:=World.block_lt_of_cell? _ _ (HB.out.cell 0 (by omega))
    have c0:=HB.out.cell 0 (by omega)
    rw [Nat.add_zero] at c0
    have HY:Hid (candV ⟨view,last,ls⟩ b=some ⟨(b.getD 0 0).toNat,last,ls⟩):=by show _=_;rw [HC.out,if_pos (by omega)]
    generalize b.getD 0 0=v at c0 HY
    have hv:v.toNat < 256:=v.toNat_lt
    have wv:=wrap_byte v
    subst h1
    go_enter Tryz.func174,Tryz.ntmps174
    go_wp2
    refine avRet (heap_alloc2 w _ _ _) rfl rfl rfl ⟨(HO.out.below ((Below.refl _ _).alloc (Nat.le_refl _) _)).below ((Below.refl _ _).alloc (Nat.le_refl _) _),((Touch.refl _ w).alloc _).alloc _,.inr ⟨⟨v.toNat,last,ls⟩,g,c,HY.out,rfl,(HO.out.below ((Below.refl _ _).alloc (Nat.le_refl _) _)).below ((Below.refl _ _).alloc (Nat.le_refl _) _),fun _ e=>.inl e⟩⟩
  · have HN:Hid (candV ⟨view,last,ls⟩ b=none):=by show _=_;rw [HC.out,if_neg (by omega)]
    have hne:((n:Int) != 1)=true:=bne_iff_ne.2 (by omega)
    go_enter Tryz.func174,Tryz.ntmps174
    go_wp2
    refine avRet (heap_alloc2 w _ _ _) rfl rfl rfl ⟨(HO.out.below ((Below.refl _ _).alloc (Nat.le_refl _) _)).below ((Below.refl _ _).alloc (Nat.le_refl _) _),((Touch.refl _ w).alloc _).alloc _,.inl ⟨HN.out,rfl⟩⟩
theorem afterAll_go (a:Option Addr) (n cap:Nat) (b:List UInt8) (wB w0 w:World) (hwB:wB.heap.size≤w.heap.size) (hb:BytesIn w0 a b) (hw:Below w0.heap.size w0 w) (hbl:b.length=n) (hn:b.length≤100000) (hcap:b.length≤cap) :
    Calls Tryz.prog 175 #[.slice a n cap] w fun e w'=>Below w.heap.size w w'∧((candA b=none∧e=.returned (.tuple #[.agg #[.int .i64 0,.int .i64 0,.slice none 0 0],.bool false])) ∨
      ∃ m g' c',candA b=some m∧e=.returned (.tuple #[m.val (g'.map fun k=>(⟨k,0,none⟩:Addr)) c',.bool true])∧OwnLines wB w' g' c' m.ls∧∀ k,g'=some k→w.heap.size≤k):=by
  have HB0:=hid hb
  have HW:=hid hw
  have HB:=hid (hb.below hw)
  have HBL:=hid hbl
  clear hb hw
  by_cases h0:n=0
  · have HN:Hid (candA b=none):=by show _=_;unfold candA;rw [if_pos (by omega)]
    subst h0
    go_enter Tryz.func175,Tryz.ntmps175
    go_wp2
    refine aaRet (heap_alloc_new w _) rfl rfl rfl ⟨(Below.refl _ _).alloc (Nat.le_refl _) _,.inl ⟨HN.out,rfl⟩⟩
  obtain ⟨g0,o,rfl,hx0⟩:=HB.out 0 (by omega)
  clear hx0
  have hg0:g0 < w.heap.size:=World.block_lt_of_cell? _ _ (HB.out.cell 0 (by omega))
  have c0:=HB.out.cell 0 (by omega)
  rw [Nat.add_zero] at c0
  have HC:Hid (candA b=if tsOk (b.drop 1) && (tsRest (b.drop 1)).isEmpty then some ⟨(b.getD 0 0).toNat,(b.getD 0 0).toNat,tsLines (b.drop 1)⟩ else none):=by show _=_;unfold candA;rw [if_neg (by omega)]
  have HDL:Hid ((b.drop 1).length=n - 1):=by show _=_;rw [List.length_drop];omega
  generalize b.getD 0 0=v at c0 HC
  have hv:v.toNat < 256:=v.toNat_lt
  have wv:=wrap_byte v
  have hz0:((n:Int) == 0)=false:=beq_eq_false_iff_ne.2 (by omega)
  have hn0:0 < n:=by omega
  have hn1:(1:Int)≤(n:Int):=by omega
  have hn2:(0:Int) < (n:Int):=by omega
  have hn3:(n:Int)≤(cap:Int):=by omega
  have HR:Hid (∀ q,q=(if cap=1 then o else o+1)→BytesIn w0 (some ⟨g0,q,none⟩) (b.drop 1)):=fun q hq=>by
    subst hq
    split
    · rw [List.drop_eq_nil_of_le (by omega)];exact BytesIn.nil _ _
    · exact HB0.out.drop 1
  go_enter Tryz.func175,Tryz.ntmps175
  by_cases hc1:cap=1
  · have hn4:n=1:=by omega
    subst hc1
    subst hn4
    go_wp2_with fail
    refine (take_at (some ⟨g0,o,none⟩) (0) (0) (b.drop 1) w0 _ (HR.out _ (by simp)) (HW.out.alloc HW.out.size _) (by have:=HDL.out;omega) (by have:=HDL.out;omega) (by have:=HDL.out;omega)).mono ?_
    rintro e w2 ⟨g1,c1,a2,cap2,rfl,hol,hbi,hcp,hb2⟩
    have R2:Hid (MBox w.heap.size 94 (.int .i64 0) (.int .i64 0) (.slice none 0 0) w2):=MBox.below (heap_alloc_new w _) hb2
    have W2:Hid (Below w.heap.size w w2):=((Below.refl _ w).alloc (Nat.le_refl _) _).trans (hb2.mono (by simp))
    have OL2:=hid (hol.base (u:=wB) (by simp;omega))
    have hg1:Hid (g1≠some w.heap.size):=fun e=>by have:=hol.new _ e;simp at this;omega
    have HFR:Hid (∀ k,g1=some k→w.heap.size≤k):=fun k e=>by have:=hol.new _ e;simp at this;omega
    have d0:w2.cell? ⟨g0,o,none⟩=some (.int .u8 v.toNat):=(W2.out.cell (p:=⟨g0,o,none⟩) hg0).trans c0
    clear hol hbi hcp hb2 c0
    obtain ⟨r0,r1,r2,fr⟩:=mbox_cells R2.out
    have hRl:w.heap.size < w2.heap.size:=heap_lt R2.out
    generalize b.drop 1=br at *
    unfold sl sla
    cases hok:tsOk br
    · have HN:Hid (candA b=none):=by show _=_;rw [HC.out,hok];rfl
      clear hok
      go_wp2
      exact aaRet (mset2 (mset1 (mset0 R2.out _) _) _) rfl rfl rfl ⟨((W2.out.setCell (p:=⟨w.heap.size,0,none⟩) (Nat.le_refl _) _).setCell (p:=⟨w.heap.size,1,none⟩) (Nat.le_refl _) _).setCell (p:=⟨w.heap.size,2,none⟩) (Nat.le_refl _) _,.inl ⟨HN.out,rfl⟩⟩
    cases hr:tsRest br with
    | cons y ys =>
      have HN:Hid (candA b=none):=by show _=_;rw [HC.out,hok,hr];rfl
      clear hok hr
      go_wp2
      exact aaRet (mset2 (mset1 (mset0 R2.out _) _) _) rfl rfl rfl ⟨((W2.out.setCell (p:=⟨w.heap.size,0,none⟩) (Nat.le_refl _) _).setCell (p:=⟨w.heap.size,1,none⟩) (Nat.le_refl _) _).setCell (p:=⟨w.heap.size,2,none⟩) (Nat.le_refl _) _,.inl ⟨HN.out,rfl⟩⟩
    | nil =>
      have HY:Hid (candA b=some ⟨v.toNat,v.toNat,tsLines br⟩):=by show _=_;rw [HC.out,hok,hr];rfl
      clear hok hr
      go_wp2
      go_still_tail 10,(by kernel_rfl)
      go_wp2
      refine aaRet (mset2 (mset1 (mset0 R2.out _) _) _) rfl rfl rfl ⟨(((W2.out.setCell (p:=⟨w.heap.size,0,none⟩) (Nat.le_refl _) _).setCell (p:=⟨w.heap.size,1,none⟩) (Nat.le_refl _) _).setCell (p:=⟨w.heap.size,2,none⟩) (Nat.le_refl _) _).drew,.inr ⟨_,g1,c1,HY.out,rfl,?_,HFR.out⟩⟩
      exact (((OL2.out.setOther w.heap.size 0 _ hg1.out).setOther w.heap.size 1 _ hg1.out).setOther w.heap.size 2 _ hg1.out).below ((Below.refl _ _).drew)
  · go_wp2_with fail
    refine (take_at (some ⟨g0,o+1,none⟩) (n - 1) (cap - 1) (b.drop 1) w0 _ (HR.out _ (by rw [if_neg hc1])) (HW.out.alloc HW.out.size _) (by have:=HDL.out;omega) (by have:=HDL.out;omega) (by have:=HDL.out;omega)).mono ?_
    rintro e w2 ⟨g1,c1,a2,cap2,rfl,hol,hbi,hcp,hb2⟩
    have R2:Hid (MBox w.heap.size 94 (.int .i64 0) (.int .i64 0) (.slice none 0 0) w2):=MBox.below (heap_alloc_new w _) hb2
    have W2:Hid (Below w.heap.size w w2):=((Below.refl _ w).alloc (Nat.le_refl _) _).trans (hb2.mono (by simp))
    have OL2:=hid (hol.base (u:=wB) (by simp;omega))
    have hg1:Hid (g1≠some w.heap.size):=fun e=>by have:=hol.new _ e;simp at this;omega
    have HFR:Hid (∀ k,g1=some k→w.heap.size≤k):=fun k e=>by have:=hol.new _ e;simp at this;omega
    have d0:w2.cell? ⟨g0,o,none⟩=some (.int .u8 v.toNat):=(W2.out.cell (p:=⟨g0,o,none⟩) hg0).trans c0
    clear hol hbi hcp hb2 c0
    obtain ⟨r0,r1,r2,fr⟩:=mbox_cells R2.out
    have hRl:w.heap.size < w2.heap.size:=heap_lt R2.out
    generalize b.drop 1=br at *
    unfold sl sla
    cases hok:tsOk br
    · have HN:Hid (candA b=none):=by show _=_;rw [HC.out,hok];rfl
      clear hok
      go_wp2
      exact aaRet (mset2 (mset1 (mset0 R2.out _) _) _) rfl rfl rfl ⟨((W2.out.setCell (p:=⟨w.heap.size,0,none⟩) (Nat.le_refl _) _).setCell (p:=⟨w.heap.size,1,none⟩) (Nat.le_refl _) _).setCell (p:=⟨w.heap.size,2,none⟩) (Nat.le_refl _) _,.inl ⟨HN.out,rfl⟩⟩
    cases hr:tsRest br with
    | cons y ys =>
      have HN:Hid (candA b=none):=by show _=_;rw [HC.out,hok,hr];rfl
      clear hok hr
      go_wp2
      exact aaRet (mset2 (mset1 (mset0 R2.out _) _) _) rfl rfl rfl ⟨((W2.out.setCell (p:=⟨w.heap.size,0,none⟩) (Nat.le_refl _) _).setCell (p:=⟨w.heap.size,1,none⟩) (Nat.le_refl _) _).setCell (p:=⟨w.heap.size,2,none⟩) (Nat.le_refl _) _,.inl ⟨HN.out,rfl⟩⟩
    | nil =>
      have HY:Hid (candA b=some ⟨v.toNat,v.toNat,tsLines br⟩):=by show _=_;rw [HC.out,hok,hr];rfl
      clear hok hr
      go_wp2
      go_still_tail 10,(by kernel_rfl)
      go_wp2
      refine aaRet (mset2 (mset1 (mset0 R2.out _) _) _) rfl rfl rfl ⟨(((W2.out.setCell (p:=⟨w.heap.size,0,none⟩) (Nat.le_refl _) _).setCell (p:=⟨w.heap.size,1,none⟩) (Nat.le_refl _) _).setCell (p:=⟨w.heap.size,2,none⟩) (Nat.le_refl _) _).drew,.inr ⟨_,g1,c1,HY.out,rfl,?_,HFR.out⟩⟩
      exact (((OL2.out.setOther w.heap.size 0 _ hg1.out).setOther w.heap.size 1 _ hg1.out).setOther w.heap.size 2 _ hg1.out).below ((Below.refl _ _).drew)
theorem OwnLines.notBox {wB w:World} {g:Option Nat} {c B:Nat} {ls:List Ln} {v0 v1 v2:Value} (h:OwnLines wB w g c ls) (e:g=some B) (hb:MBox B 94 v0 v1 v2 w):False:=by
  rcases h.own with ⟨h0,_⟩ | ⟨g0,cur,h0,hg,_⟩
  · rw [e] at h0;cases h0
  · rw [e] at h0
    cases h0
    unfold MBox at hb
    rw [hg] at hb
    simp at hb
theorem candM_eq (m:Mm) (b:List UInt8):candM m b=if b.length=0 then none else if (b.getD 0 0).toNat=1 then candL m (b.drop 1) else if (b.getD 0 0).toNat=2 then candV m (b.drop 1) else if (b.getD 0 0).toNat=3 then candA (b.drop 1) else none:=by
  unfold candM candL candV candA
  by_cases h0:b.length=0
  · rw [if_pos h0,if_pos h0]
  · rw [if_neg h0,if_neg h0]
    have e1:(b.drop 1).getD 0 0=b.getD 1 0:=by simp [List.getD]
    have e2:(b.drop 1).drop 1=b.drop 2:=by rw [List.drop_drop]
    have e3:(b.drop 1).length=b.length - 1:=List.length_drop
    rw [e1,e2,e3]
    split
    · rfl
    · split
      · by_cases h:b.length=2
        · rw [if_pos h,if_pos (by omega)]
        · rw [if_neg h,if_neg (by omega)]
      · split
        · by_cases h:b.length < 2
          · rw [if_pos h,if_pos (by omega)]
          · rw [if_neg h,if_neg (show ¬ b.length - 1=0 by omega)]
        · rfl
theorem after_go (m:Mm) (g:Option Nat) (c:Nat) (a:Option Addr) (n cap:Nat) (b:List UInt8) (wB w0 w:World) (hO:OwnLines wB w g c m.ls) (hm:m.ls.length≤20) (hwB:wB.heap.size≤w.heap.size) (hb:BytesIn w0 a b) (hw:Below w0.heap.size w0 w) (hbl:b.length=n) (hn:b.length≤100000) (hcap:b.length≤cap) :
    Calls Tryz.prog 130 #[m.val (g.map fun k=>(⟨k,0,none⟩:Addr)) c,.slice a n cap] w (AfterRet wB w m g c (candM m b)):=by
  obtain ⟨view,last,ls⟩:=m
  dsimp only at hO hm
  have HO:=hid hO
  have HB0:=hid hb
  have HW:=hid hw
  have HB:=hid (hb.below hw)
  have HBL:=hid hbl
  clear hO hb hw
  have HV:Hid ((Mm.mk view last ls).val (g.map fun k=>(⟨k,0,none⟩:Addr)) c=.agg #[.int .i64 view,.int .i64 last,.slice (g.map fun k=>⟨k,0,none⟩) ls.length c]):=rfl
  rw [HV.out]
  have HC:=hid (candM_eq ⟨view,last,ls⟩ b)
  generalize candM ⟨view,last,ls⟩ b=CM at HC ⊢
  by_cases h0:n=0
  · have HN:Hid (CM=none):=by show _=_;rw [HC.out,if_pos (by omega)]
    subst h0
    go_enter Tryz.func130,Tryz.ntmps130
    go_wp2
    refine afRet (heap_alloc2 w _ _ _) rfl rfl rfl ⟨(HO.out.below ((Below.refl _ _).alloc (Nat.le_refl _) _)).below ((Below.refl _ _).alloc (Nat.le_refl _) _),((Touch.refl _ w).alloc _).alloc _,.inl ⟨HN.out,rfl⟩⟩
  obtain ⟨g0,o,rfl,hx0⟩:=HB.out 0 (by omega)
  clear hx0
  have hg0:g0 < w.heap.size:=World.block_lt_of_cell? _ _ (HB.out.cell 0 (by omega))
  have c0:=HB.out.cell 0 (by omega)
  rw [Nat.add_zero] at c0
  have HC2:Hid (CM=if (b.getD 0 0).toNat=1 then candL ⟨view,last,ls⟩ (b.drop 1) else if (b.getD 0 0).toNat=2 then candV ⟨view,last,ls⟩ (b.drop 1) else if (b.getD 0 0).toNat=3 then candA (b.drop 1) else none):=by show _=_;rw [HC.out,if_neg (by omega)]
  have HDL:Hid ((b.drop 1).length=n - 1):=by show _=_;rw [List.length_drop];omega
  generalize b.getD 0 0=v at c0 HC2
  have hv:v.toNat < 256:=v.toNat_lt
  have hz0:((n:Int) == 0)=false:=beq_eq_false_iff_ne.2 (by omega)
  have hn0:0 < n:=by omega
  have hn1:(1:Int)≤(n:Int):=by omega
  have hn2:(0:Int) < (n:Int):=by omega
  have hn3:(n:Int)≤(cap:Int):=by omega
  have HR:Hid (∀ q,q=(if cap=1 then o else o+1)→BytesIn w0 (some ⟨g0,q,none⟩) (b.drop 1)):=fun q hq=>by
    subst hq
    split
    · rw [List.drop_eq_nil_of_le (by omega)];exact BytesIn.nil _ _
    · exact HB0.out.drop 1
  have hgR:Hid (g≠some (w.heap.size+1)):=fun e=>by have:=HO.out.own.lt e;omega
  go_enter Tryz.func130,Tryz.ntmps130
  by_cases v1:v.toNat=1
  · skip
    have HCM:Hid (CM=candL ⟨view,last,ls⟩ (b.drop 1)):=by show _=_;rw [HC2.out];rw [if_pos v1]
    have z1:((v.toNat:Int) == 1)=true:=beq_iff_eq.2 (by omega)
    by_cases hc1:cap=1
    · have hn4:n=1:=by omega
      subst hc1
      subst hn4
      go_wp2_with fail
      rw [← HV.out]
      refine (afterLineMore_go ⟨view,last,ls⟩ g c (some ⟨g0,o,none⟩) (0) (0) (b.drop 1) wB w0 _ (by exact (HO.out.below ((Below.refl _ _).alloc (Nat.le_refl _) _)).below ((Below.refl _ _).alloc (Nat.le_refl _) _)) hm (by simp;omega) (HR.out _ (by simp)) ((HW.out.alloc HW.out.size _).alloc (by have:=HW.out.size;simp;omega) _) (by have:=HDL.out;omega) (by have:=HDL.out;omega) (by have:=HDL.out;omega)).mono ?_
      have RX:MBox (w.heap.size+1) 94 (.int .i64 0) (.int .i64 0) (.slice none 0 0) ((w.alloc (.cells #[.int .i64 view,.int .i64 last,.slice (g.map fun k=>⟨k,0,none⟩) ls.length c] 94)).alloc (.cells #[.int .i64 0,.int .i64 0,.slice none 0 0] 94)):=heap_alloc2 w _ _ _
      have OX:Hid (OwnLines wB ((w.alloc (.cells #[.int .i64 view,.int .i64 last,.slice (g.map fun k=>⟨k,0,none⟩) ls.length c] 94)).alloc (.cells #[.int .i64 0,.int .i64 0,.slice none 0 0] 94)) g c ls):=(HO.out.below ((Below.refl _ _).alloc (Nat.le_refl _) _)).below ((Below.refl _ _).alloc (Nat.le_refl _) _)
      rintro e w3 ⟨h1,h2,h3⟩
      have R3:=hid (RX.touch h2 hgR.out)
      have O3:=hid h1
      have T3:Hid (Touch (fun k=>g=some k) w w3):=(((Touch.refl (fun k=>g=some k) w).alloc _).alloc _).trans h2 (fun _ _ e=>e)
      clear RX h1 h2
      obtain ⟨r0,r1,r2,fr⟩:=mbox_cells R3.out
      have hRl:w.heap.size+1 < w3.heap.size:=heap_lt R3.out
      rcases h3 with ⟨hcd,rfl⟩ | ⟨nn,g',c',hcd,rfl,ho,hfr⟩
      · have HN:=hid (HCM.out.trans hcd)
        clear hcd
        go_wp2
        refine afRet (mset2 (mset1 (mset0 R3.out _) _) _) rfl rfl rfl ⟨((O3.out.setOther (w.heap.size+1) 0 _ hgR.out).setOther (w.heap.size+1) 1 _ hgR.out).setOther (w.heap.size+1) 2 _ hgR.out,?_,.inl ⟨HN.out,rfl⟩⟩
        exact ((T3.out.setCell (p:=⟨w.heap.size+1,0,none⟩) (fun h=>absurd h (by dsimp only;omega)) _).setCell (p:=⟨w.heap.size+1,1,none⟩) (fun h=>absurd h (by dsimp only;omega)) _).setCell (p:=⟨w.heap.size+1,2,none⟩) (fun h=>absurd h (by dsimp only;omega)) _
      · have HY:=hid (HCM.out.trans hcd)
        have HON:=hid ho
        have HFR:Hid (∀ k,g'=some k→g=some k∨w.heap.size≤k):=fun k e=>by
          first
          | (rcases hfr k e with q | q
             · exact .inl q
             · simp at q;exact .inr (by omega))
          | (have q:=hfr k e;simp at q;exact .inr (by omega))
        have hg':Hid (g'≠some (w.heap.size+1)):=fun e=>HON.out.notBox e R3.out
        clear hcd ho hfr
        obtain ⟨nv,nl,nls⟩:=nn
        have HV2:Hid ((Mm.mk nv nl nls).val (g'.map fun k=>(⟨k,0,none⟩:Addr)) c'=.agg #[.int .i64 nv,.int .i64 nl,.slice (g'.map fun k=>⟨k,0,none⟩) nls.length c']):=rfl
        rw [HV2.out]
        go_wp2
        refine afRet (mset2 (mset1 (mset0 R3.out _) _) _) rfl rfl rfl ⟨((O3.out.setOther (w.heap.size+1) 0 _ hgR.out).setOther (w.heap.size+1) 1 _ hgR.out).setOther (w.heap.size+1) 2 _ hgR.out,?_,.inr ⟨_,g',c',HY.out,rfl,?_,HFR.out⟩⟩
        · exact ((T3.out.setCell (p:=⟨w.heap.size+1,0,none⟩) (fun h=>absurd h (by dsimp only;omega)) _).setCell (p:=⟨w.heap.size+1,1,none⟩) (fun h=>absurd h (by dsimp only;omega)) _).setCell (p:=⟨w.heap.size+1,2,none⟩) (fun h=>absurd h (by dsimp only;omega)) _
        · exact ((HON.out.setOther (w.heap.size+1) 0 _ hg'.out).setOther (w.heap.size+1) 1 _ hg'.out).setOther (w.heap.size+1) 2 _ hg'.out
    · skip
      go_wp2_with fail
      rw [← HV.out]
      refine (afterLineMore_go ⟨view,last,ls⟩ g c (some ⟨g0,o+1,none⟩) (n - 1) (cap - 1) (b.drop 1) wB w0 _ (by exact (HO.out.below ((Below.refl _ _).alloc (Nat.le_refl _) _)).below ((Below.refl _ _).alloc (Nat.le_refl _) _)) hm (by simp;omega) (HR.out _ (by rw [if_neg hc1])) ((HW.out.alloc HW.out.size _).alloc (by have:=HW.out.size;simp;omega) _) (by have:=HDL.out;omega) (by have:=HDL.out;omega) (by have:=HDL.out;omega)).mono ?_
      have RX:MBox (w.heap.size+1) 94 (.int .i64 0) (.int .i64 0) (.slice none 0 0) ((w.alloc (.cells #[.int .i64 view,.int .i64 last,.slice (g.map fun k=>⟨k,0,none⟩) ls.length c] 94)).alloc (.cells #[.int .i64 0,.int .i64 0,.slice none 0 0] 94)):=heap_alloc2 w _ _ _
      have OX:Hid (OwnLines wB ((w.alloc (.cells #[.int .i64 view,.int .i64 last,.slice (g.map fun k=>⟨k,0,none⟩) ls.length c] 94)).alloc (.cells #[.int .i64 0,.int .i64 0,.slice none 0 0] 94)) g c ls):=(HO.out.below ((Below.refl _ _).alloc (Nat.le_refl _) _)).below ((Below.refl _ _).alloc (Nat.le_refl _) _)
      rintro e w3 ⟨h1,h2,h3⟩
      have R3:=hid (RX.touch h2 hgR.out)
      have O3:=hid h1
      have T3:Hid (Touch (fun k=>g=some k) w w3):=(((Touch.refl (fun k=>g=some k) w).alloc _).alloc _).trans h2 (fun _ _ e=>e)
      clear RX h1 h2
      obtain ⟨r0,r1,r2,fr⟩:=mbox_cells R3.out
      have hRl:w.heap.size+1 < w3.heap.size:=heap_lt R3.out
      rcases h3 with ⟨hcd,rfl⟩ | ⟨nn,g',c',hcd,rfl,ho,hfr⟩
      · have HN:=hid (HCM.out.trans hcd)
        clear hcd
        go_wp2
        refine afRet (mset2 (mset1 (mset0 R3.out _) _) _) rfl rfl rfl ⟨((O3.out.setOther (w.heap.size+1) 0 _ hgR.out).setOther (w.heap.size+1) 1 _ hgR.out).setOther (w.heap.size+1) 2 _ hgR.out,?_,.inl ⟨HN.out,rfl⟩⟩
        exact ((T3.out.setCell (p:=⟨w.heap.size+1,0,none⟩) (fun h=>absurd h (by dsimp only;omega)) _).setCell (p:=⟨w.heap.size+1,1,none⟩) (fun h=>absurd h (by dsimp only;omega)) _).setCell (p:=⟨w.heap.size+1,2,none⟩) (fun h=>absurd h (by dsimp only;omega)) _
      · have HY:=hid (HCM.out.trans hcd)
        have HON:=hid ho
        have HFR:Hid (∀ k,g'=some k→g=some k∨w.heap.size≤k):=fun k e=>by
          first
          | (rcases hfr k e with q | q
             · exact .inl q
             · simp at q;exact .inr (by omega))
          | (have q:=hfr k e;simp at q;exact .inr (by omega))
        have hg':Hid (g'≠some (w.heap.size+1)):=fun e=>HON.out.notBox e R3.out
        clear hcd ho hfr
        obtain ⟨nv,nl,nls⟩:=nn
        have HV2:Hid ((Mm.mk nv nl nls).val (g'.map fun k=>(⟨k,0,none⟩:Addr)) c'=.agg #[.int .i64 nv,.int .i64 nl,.slice (g'.map fun k=>⟨k,0,none⟩) nls.length c']):=rfl
        rw [HV2.out]
        go_wp2
        refine afRet (mset2 (mset1 (mset0 R3.out _) _) _) rfl rfl rfl ⟨((O3.out.setOther (w.heap.size+1) 0 _ hgR.out).setOther (w.heap.size+1) 1 _ hgR.out).setOther (w.heap.size+1) 2 _ hgR.out,?_,.inr ⟨_,g',c',HY.out,rfl,?_,HFR.out⟩⟩
        · exact ((T3.out.setCell (p:=⟨w.heap.size+1,0,none⟩) (fun h=>absurd h (by dsimp only;omega)) _).setCell (p:=⟨w.heap.size+1,1,none⟩) (fun h=>absurd h (by dsimp only;omega)) _).setCell (p:=⟨w.heap.size+1,2,none⟩) (fun h=>absurd h (by dsimp only;omega)) _
        · exact ((HON.out.setOther (w.heap.size+1) 0 _ hg'.out).setOther (w.heap.size+1) 1 _ hg'.out).setOther (w.heap.size+1) 2 _ hg'.out
  have z1:((v.toNat:Int) == 1)=false:=beq_eq_false_iff_ne.2 (by omega)
  by_cases v2:v.toNat=2
  · skip
    have HCM:Hid (CM=candV ⟨view,last,ls⟩ (b.drop 1)):=by show _=_;rw [HC2.out];rw [if_neg v1,if_pos v2]
    have z2:((v.toNat:Int) == 2)=true:=beq_iff_eq.2 (by omega)
    by_cases hc1:cap=1
    · have hn4:n=1:=by omega
      subst hc1
      subst hn4
      go_wp2_with fail
      rw [← HV.out]
      refine (afterView_go ⟨view,last,ls⟩ g c (some ⟨g0,o,none⟩) (0) (0) (b.drop 1) wB w0 _ (by exact (HO.out.below ((Below.refl _ _).alloc (Nat.le_refl _) _)).below ((Below.refl _ _).alloc (Nat.le_refl _) _)) (HR.out _ (by simp)) ((HW.out.alloc HW.out.size _).alloc (by have:=HW.out.size;simp;omega) _) (by have:=HDL.out;omega) (by have:=HDL.out;omega) (by have:=HDL.out;omega)).mono ?_
      have RX:MBox (w.heap.size+1) 94 (.int .i64 0) (.int .i64 0) (.slice none 0 0) ((w.alloc (.cells #[.int .i64 view,.int .i64 last,.slice (g.map fun k=>⟨k,0,none⟩) ls.length c] 94)).alloc (.cells #[.int .i64 0,.int .i64 0,.slice none 0 0] 94)):=heap_alloc2 w _ _ _
      have OX:Hid (OwnLines wB ((w.alloc (.cells #[.int .i64 view,.int .i64 last,.slice (g.map fun k=>⟨k,0,none⟩) ls.length c] 94)).alloc (.cells #[.int .i64 0,.int .i64 0,.slice none 0 0] 94)) g c ls):=(HO.out.below ((Below.refl _ _).alloc (Nat.le_refl _) _)).below ((Below.refl _ _).alloc (Nat.le_refl _) _)
      rintro e w3 ⟨h1,h2,h3⟩
      have R3:=hid (RX.touch h2 hgR.out)
      have O3:=hid h1
      have T3:Hid (Touch (fun k=>g=some k) w w3):=(((Touch.refl (fun k=>g=some k) w).alloc _).alloc _).trans h2 (fun _ _ e=>e)
      clear RX h1 h2
      obtain ⟨r0,r1,r2,fr⟩:=mbox_cells R3.out
      have hRl:w.heap.size+1 < w3.heap.size:=heap_lt R3.out
      rcases h3 with ⟨hcd,rfl⟩ | ⟨nn,g',c',hcd,rfl,ho,hfr⟩
      · have HN:=hid (HCM.out.trans hcd)
        clear hcd
        go_wp2
        refine afRet (mset2 (mset1 (mset0 R3.out _) _) _) rfl rfl rfl ⟨((O3.out.setOther (w.heap.size+1) 0 _ hgR.out).setOther (w.heap.size+1) 1 _ hgR.out).setOther (w.heap.size+1) 2 _ hgR.out,?_,.inl ⟨HN.out,rfl⟩⟩
        exact ((T3.out.setCell (p:=⟨w.heap.size+1,0,none⟩) (fun h=>absurd h (by dsimp only;omega)) _).setCell (p:=⟨w.heap.size+1,1,none⟩) (fun h=>absurd h (by dsimp only;omega)) _).setCell (p:=⟨w.heap.size+1,2,none⟩) (fun h=>absurd h (by dsimp only;omega)) _
      · have HY:=hid (HCM.out.trans hcd)
        have HON:=hid ho
        have HFR:Hid (∀ k,g'=some k→g=some k∨w.heap.size≤k):=fun k e=>by
          first
          | (rcases hfr k e with q | q
             · exact .inl q
             · simp at q;exact .inr (by omega))
          | (have q:=hfr k e;simp at q;exact .inr (by omega))
        have hg':Hid (g'≠some (w.heap.size+1)):=fun e=>HON.out.notBox e R3.out
        clear hcd ho hfr
        obtain ⟨nv,nl,nls⟩:=nn
        have HV2:Hid ((Mm.mk nv nl nls).val (g'.map fun k=>(⟨k,0,none⟩:Addr)) c'=.agg #[.int .i64 nv,.int .i64 nl,.slice (g'.map fun k=>⟨k,0,none⟩) nls.length c']):=rfl
        rw [HV2.out]
        go_wp2
        refine afRet (mset2 (mset1 (mset0 R3.out _) _) _) rfl rfl rfl ⟨((O3.out.setOther (w.heap.size+1) 0 _ hgR.out).setOther (w.heap.size+1) 1 _ hgR.out).setOther (w.heap.size+1) 2 _ hgR.out,?_,.inr ⟨_,g',c',HY.out,rfl,?_,HFR.out⟩⟩
        · exact ((T3.out.setCell (p:=⟨w.heap.size+1,0,none⟩) (fun h=>absurd h (by dsimp only;omega)) _).setCell (p:=⟨w.heap.size+1,1,none⟩) (fun h=>absurd h (by dsimp only;omega)) _).setCell (p:=⟨w.heap.size+1,2,none⟩) (fun h=>absurd h (by dsimp only;omega)) _
        · exact ((HON.out.setOther (w.heap.size+1) 0 _ hg'.out).setOther (w.heap.size+1) 1 _ hg'.out).setOther (w.heap.size+1) 2 _ hg'.out
    · skip
      go_wp2_with fail
      rw [← HV.out]
      refine (afterView_go ⟨view,last,ls⟩ g c (some ⟨g0,o+1,none⟩) (n - 1) (cap - 1) (b.drop 1) wB w0 _ (by exact (HO.out.below ((Below.refl _ _).alloc (Nat.le_refl _) _)).below ((Below.refl _ _).alloc (Nat.le_refl _) _)) (HR.out _ (by rw [if_neg hc1])) ((HW.out.alloc HW.out.size _).alloc (by have:=HW.out.size;simp;omega) _) (by have:=HDL.out;omega) (by have:=HDL.out;omega) (by have:=HDL.out;omega)).mono ?_
      have RX:MBox (w.heap.size+1) 94 (.int .i64 0) (.int .i64 0) (.slice none 0 0) ((w.alloc (.cells #[.int .i64 view,.int .i64 last,.slice (g.map fun k=>⟨k,0,none⟩) ls.length c] 94)).alloc (.cells #[.int .i64 0,.int .i64 0,.slice none 0 0] 94)):=heap_alloc2 w _ _ _
      have OX:Hid (OwnLines wB ((w.alloc (.cells #[.int .i64 view,.int .i64 last,.slice (g.map fun k=>⟨k,0,none⟩) ls.length c] 94)).alloc (.cells #[.int .i64 0,.int .i64 0,.slice none 0 0] 94)) g c ls):=(HO.out.below ((Below.refl _ _).alloc (Nat.le_refl _) _)).below ((Below.refl _ _).alloc (Nat.le_refl _) _)
      rintro e w3 ⟨h1,h2,h3⟩
      have R3:=hid (RX.touch h2 hgR.out)
      have O3:=hid h1
      have T3:Hid (Touch (fun k=>g=some k) w w3):=(((Touch.refl (fun k=>g=some k) w).alloc _).alloc _).trans h2 (fun _ _ e=>e)
      clear RX h1 h2
      obtain ⟨r0,r1,r2,fr⟩:=mbox_cells R3.out
      have hRl:w.heap.size+1 < w3.heap.size:=heap_lt R3.out
      rcases h3 with ⟨hcd,rfl⟩ | ⟨nn,g',c',hcd,rfl,ho,hfr⟩
      · have HN:=hid (HCM.out.trans hcd)
        clear hcd
        go_wp2
        refine afRet (mset2 (mset1 (mset0 R3.out _) _) _) rfl rfl rfl ⟨((O3.out.setOther (w.heap.size+1) 0 _ hgR.out).setOther (w.heap.size+1) 1 _ hgR.out).setOther (w.heap.size+1) 2 _ hgR.out,?_,.inl ⟨HN.out,rfl⟩⟩
        exact ((T3.out.setCell (p:=⟨w.heap.size+1,0,none⟩) (fun h=>absurd h (by dsimp only;omega)) _).setCell (p:=⟨w.heap.size+1,1,none⟩) (fun h=>absurd h (by dsimp only;omega)) _).setCell (p:=⟨w.heap.size+1,2,none⟩) (fun h=>absurd h (by dsimp only;omega)) _
      · have HY:=hid (HCM.out.trans hcd)
        have HON:=hid ho
        have HFR:Hid (∀ k,g'=some k→g=some k∨w.heap.size≤k):=fun k e=>by
          first
          | (rcases hfr k e with q | q
             · exact .inl q
             · simp at q;exact .inr (by omega))
          | (have q:=hfr k e;simp at q;exact .inr (by omega))
        have hg':Hid (g'≠some (w.heap.size+1)):=fun e=>HON.out.notBox e R3.out
        clear hcd ho hfr
        obtain ⟨nv,nl,nls⟩:=nn
        have HV2:Hid ((Mm.mk nv nl nls).val (g'.map fun k=>(⟨k,0,none⟩:Addr)) c'=.agg #[.int .i64 nv,.int .i64 nl,.slice (g'.map fun k=>⟨k,0,none⟩) nls.length c']):=rfl
        rw [HV2.out]
        go_wp2
        refine afRet (mset2 (mset1 (mset0 R3.out _) _) _) rfl rfl rfl ⟨((O3.out.setOther (w.heap.size+1) 0 _ hgR.out).setOther (w.heap.size+1) 1 _ hgR.out).setOther (w.heap.size+1) 2 _ hgR.out,?_,.inr ⟨_,g',c',HY.out,rfl,?_,HFR.out⟩⟩
        · exact ((T3.out.setCell (p:=⟨w.heap.size+1,0,none⟩) (fun h=>absurd h (by dsimp only;omega)) _).setCell (p:=⟨w.heap.size+1,1,none⟩) (fun h=>absurd h (by dsimp only;omega)) _).setCell (p:=⟨w.heap.size+1,2,none⟩) (fun h=>absurd h (by dsimp only;omega)) _
        · exact ((HON.out.setOther (w.heap.size+1) 0 _ hg'.out).setOther (w.heap.size+1) 1 _ hg'.out).setOther (w.heap.size+1) 2 _ hg'.out
  have z2:((v.toNat:Int) == 2)=false:=beq_eq_false_iff_ne.2 (by omega)
  by_cases v3:v.toNat=3
  · skip
    have HCM:Hid (CM=candA (b.drop 1)):=by show _=_;rw [HC2.out];rw [if_neg v1,if_neg v2,if_pos v3]
    have z3:((v.toNat:Int) == 3)=true:=beq_iff_eq.2 (by omega)
    by_cases hc1:cap=1
    · have hn4:n=1:=by omega
      subst hc1
      subst hn4
      go_wp2_with fail
      refine (afterAll_go (some ⟨g0,o,none⟩) (0) (0) (b.drop 1) wB w0 _ (by simp;omega) (HR.out _ (by simp)) ((HW.out.alloc HW.out.size _).alloc (by have:=HW.out.size;simp;omega) _) (by have:=HDL.out;omega) (by have:=HDL.out;omega) (by have:=HDL.out;omega)).mono ?_
      have RX:MBox (w.heap.size+1) 94 (.int .i64 0) (.int .i64 0) (.slice none 0 0) ((w.alloc (.cells #[.int .i64 view,.int .i64 last,.slice (g.map fun k=>⟨k,0,none⟩) ls.length c] 94)).alloc (.cells #[.int .i64 0,.int .i64 0,.slice none 0 0] 94)):=heap_alloc2 w _ _ _
      have OX:Hid (OwnLines wB ((w.alloc (.cells #[.int .i64 view,.int .i64 last,.slice (g.map fun k=>⟨k,0,none⟩) ls.length c] 94)).alloc (.cells #[.int .i64 0,.int .i64 0,.slice none 0 0] 94)) g c ls):=(HO.out.below ((Below.refl _ _).alloc (Nat.le_refl _) _)).below ((Below.refl _ _).alloc (Nat.le_refl _) _)
      rintro e w3 ⟨hb3,h3⟩
      have h2:=Touch.of_belowAll hb3 (fun k=>g=some k)
      have h1:=(OX.out.below hb3)
      clear hb3
      have R3:=hid (RX.touch h2 hgR.out)
      have O3:=hid h1
      have T3:Hid (Touch (fun k=>g=some k) w w3):=(((Touch.refl (fun k=>g=some k) w).alloc _).alloc _).trans h2 (fun _ _ e=>e)
      clear RX h1 h2
      obtain ⟨r0,r1,r2,fr⟩:=mbox_cells R3.out
      have hRl:w.heap.size+1 < w3.heap.size:=heap_lt R3.out
      rcases h3 with ⟨hcd,rfl⟩ | ⟨nn,g',c',hcd,rfl,ho,hfr⟩
      · have HN:=hid (HCM.out.trans hcd)
        clear hcd
        go_wp2
        refine afRet (mset2 (mset1 (mset0 R3.out _) _) _) rfl rfl rfl ⟨((O3.out.setOther (w.heap.size+1) 0 _ hgR.out).setOther (w.heap.size+1) 1 _ hgR.out).setOther (w.heap.size+1) 2 _ hgR.out,?_,.inl ⟨HN.out,rfl⟩⟩
        exact ((T3.out.setCell (p:=⟨w.heap.size+1,0,none⟩) (fun h=>absurd h (by dsimp only;omega)) _).setCell (p:=⟨w.heap.size+1,1,none⟩) (fun h=>absurd h (by dsimp only;omega)) _).setCell (p:=⟨w.heap.size+1,2,none⟩) (fun h=>absurd h (by dsimp only;omega)) _
      · have HY:=hid (HCM.out.trans hcd)
        have HON:=hid ho
        have HFR:Hid (∀ k,g'=some k→g=some k∨w.heap.size≤k):=fun k e=>by
          first
          | (rcases hfr k e with q | q
             · exact .inl q
             · simp at q;exact .inr (by omega))
          | (have q:=hfr k e;simp at q;exact .inr (by omega))
        have hg':Hid (g'≠some (w.heap.size+1)):=fun e=>HON.out.notBox e R3.out
        clear hcd ho hfr
        obtain ⟨nv,nl,nls⟩:=nn
        have HV2:Hid ((Mm.mk nv nl nls).val (g'.map fun k=>(⟨k,0,none⟩:Addr)) c'=.agg #[.int .i64 nv,.int .i64 nl,.slice (g'.map fun k=>⟨k,0,none⟩) nls.length c']):=rfl
        rw [HV2.out]
        go_wp2
        refine afRet (mset2 (mset1 (mset0 R3.out _) _) _) rfl rfl rfl ⟨((O3.out.setOther (w.heap.size+1) 0 _ hgR.out).setOther (w.heap.size+1) 1 _ hgR.out).setOther (w.heap.size+1) 2 _ hgR.out,?_,.inr ⟨_,g',c',HY.out,rfl,?_,HFR.out⟩⟩
        · exact ((T3.out.setCell (p:=⟨w.heap.size+1,0,none⟩) (fun h=>absurd h (by dsimp only;omega)) _).setCell (p:=⟨w.heap.size+1,1,none⟩) (fun h=>absurd h (by dsimp only;omega)) _).setCell (p:=⟨w.heap.size+1,2,none⟩) (fun h=>absurd h (by dsimp only;omega)) _
        · exact ((HON.out.setOther (w.heap.size+1) 0 _ hg'.out).setOther (w.heap.size+1) 1 _ hg'.out).setOther (w.heap.size+1) 2 _ hg'.out
    · skip
      go_wp2_with fail
      refine (afterAll_go (some ⟨g0,o+1,none⟩) (n - 1) (cap - 1) (b.drop 1) wB w0 _ (by simp;omega) (HR.out _ (by rw [if_neg hc1])) ((HW.out.alloc HW.out.size _).alloc (by have:=HW.out.size;simp;omega) _) (by have:=HDL.out;omega) (by have:=HDL.out;omega) (by have:=HDL.out;omega)).mono ?_
      have RX:MBox (w.heap.size+1) 94 (.int .i64 0) (.int .i64 0) (.slice none 0 0) ((w.alloc (.cells #[.int .i64 view,.int .i64 last,.slice (g.map fun k=>⟨k,0,none⟩) ls.length c] 94)).alloc (.cells #[.int .i64 0,.int .i64 0,.slice none 0 0] 94)):=heap_alloc2 w _ _ _
      have OX:Hid (OwnLines wB ((w.alloc (.cells #[.int .i64 view,.int .i64 last,.slice (g.map fun k=>⟨k,0,none⟩) ls.length c] 94)).alloc (.cells #[.int .i64 0,.int .i64 0,.slice none 0 0] 94)) g c ls):=(HO.out.below ((Below.refl _ _).alloc (Nat.le_refl _) _)).below ((Below.refl _ _).alloc (Nat.le_refl _) _)
      rintro e w3 ⟨hb3,h3⟩
      have h2:=Touch.of_belowAll hb3 (fun k=>g=some k)
      have h1:=(OX.out.below hb3)
      clear hb3
      have R3:=hid (RX.touch h2 hgR.out)
      have O3:=hid h1
      have T3:Hid (Touch (fun k=>g=some k) w w3):=(((Touch.refl (fun k=>g=some k) w).alloc _).alloc _).trans h2 (fun _ _ e=>e)
      clear RX h1 h2
      obtain ⟨r0,r1,r2,fr⟩:=mbox_cells R3.out
      have hRl:w.heap.size+1 < w3.heap.size:=heap_lt R3.out
      rcases h3 with ⟨hcd,rfl⟩ | ⟨nn,g',c',hcd,rfl,ho,hfr⟩
      · have HN:=hid (HCM.out.trans hcd)
        clear hcd
        go_wp2
        refine afRet (mset2 (mset1 (mset0 R3.out _) _) _) rfl rfl rfl ⟨((O3.out.setOther (w.heap.size+1) 0 _ hgR.out).setOther (w.heap.size+1) 1 _ hgR.out).setOther (w.heap.size+1) 2 _ hgR.out,?_,.inl ⟨HN.out,rfl⟩⟩
        exact ((T3.out.setCell (p:=⟨w.heap.size+1,0,none⟩) (fun h=>absurd h (by dsimp only;omega)) _).setCell (p:=⟨w.heap.size+1,1,none⟩) (fun h=>absurd h (by dsimp only;omega)) _).setCell (p:=⟨w.heap.size+1,2,none⟩) (fun h=>absurd h (by dsimp only;omega)) _
      · have HY:=hid (HCM.out.trans hcd)
        have HON:=hid ho
        have HFR:Hid (∀ k,g'=some k→g=some k∨w.heap.size≤k):=fun k e=>by
          first
          | (rcases hfr k e with q | q
             · exact .inl q
             · simp at q;exact .inr (by omega))
          | (have q:=hfr k e;simp at q;exact .inr (by omega))
        have hg':Hid (g'≠some (w.heap.size+1)):=fun e=>HON.out.notBox e R3.out
        clear hcd ho hfr
        obtain ⟨nv,nl,nls⟩:=nn
        have HV2:Hid ((Mm.mk nv nl nls).val (g'.map fun k=>(⟨k,0,none⟩:Addr)) c'=.agg #[.int .i64 nv,.int .i64 nl,.slice (g'.map fun k=>⟨k,0,none⟩) nls.length c']):=rfl
        rw [HV2.out]
        go_wp2
        refine afRet (mset2 (mset1 (mset0 R3.out _) _) _) rfl rfl rfl ⟨((O3.out.setOther (w.heap.size+1) 0 _ hgR.out).setOther (w.heap.size+1) 1 _ hgR.out).setOther (w.heap.size+1) 2 _ hgR.out,?_,.inr ⟨_,g',c',HY.out,rfl,?_,HFR.out⟩⟩
        · exact ((T3.out.setCell (p:=⟨w.heap.size+1,0,none⟩) (fun h=>absurd h (by dsimp only;omega)) _).setCell (p:=⟨w.heap.size+1,1,none⟩) (fun h=>absurd h (by dsimp only;omega)) _).setCell (p:=⟨w.heap.size+1,2,none⟩) (fun h=>absurd h (by dsimp only;omega)) _
        · exact ((HON.out.setOther (w.heap.size+1) 0 _ hg'.out).setOther (w.heap.size+1) 1 _ hg'.out).setOther (w.heap.size+1) 2 _ hg'.out
  have z3:((v.toNat:Int) == 3)=false:=beq_eq_false_iff_ne.2 (by omega)
  have HN:Hid (CM=none):=by show _=_;rw [HC2.out,if_neg v1,if_neg v2,if_neg v3]
  go_wp2
  all_goals refine afRet (heap_alloc2 w _ _ _) rfl rfl rfl ⟨(HO.out.below ((Below.refl _ _).alloc (Nat.le_refl _) _)).below ((Below.refl _ _).alloc (Nat.le_refl _) _),((Touch.refl _ w).alloc _).alloc _,.inl ⟨HN.out,rfl⟩⟩
end
end Go.Proofs.YtolififimldmlaaGreat
