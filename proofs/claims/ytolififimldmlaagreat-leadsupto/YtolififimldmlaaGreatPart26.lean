import Derived.Test.YtolififimldmlaaGreatPart25
set_option linter.unusedVariables false
set_option linter.unusedSimpArgs false
set_option maxRecDepth 100000
set_option maxHeartbeats 16000000
namespace Go.Proofs.YtolififimldmlaaGreat
section
open Go.RowKit
attribute [local go_sem ↓] Go.wp_at_zero Go.wp_at_succ
theorem sent_any (y:World) (W:Nat) (psv:Value) (lead:Bool) (gh:Option Nat) (n cap:Nat) (H:Nat→HG) (hw:WI y W psv lead gh n cap H) (u:World) (g:Option Nat) (c:Nat) (os:List OutG) (gs:Nat→Option Nat) (cs:Nat→Nat) (ho:OwnOuts u y g c os gs cs) (gr:Option Nat) (cr:Nat) (hr:OwnOutsR y gr cr os)
    (hfr:∀ k,(g=some k∨∃ j,j < os.length∧gs j=some k)→Free W gh n H k) (h20:os.length≤20) (hbs:∀ o ∈ os,o.b.length≤400) (hn:n≤95000000) :
    Calls Tryz.prog 65 #[.pointer (some ⟨W,0,none⟩),.slice (g.map fun k=>⟨k,0,none⟩) os.length c,.slice (gr.map fun k=>⟨k,0,none⟩) os.length cr] y fun e z=>e=.returned (.bool true)∧∃ gh' cap' H',KeptN y W psv lead gh n (4 * os.length+4) H (fun k=>g=some k∨∃ j,j < os.length∧gs j=some k) z gh' cap' H':=by
  have HWI:=hid hw
  have HO:=hid ho
  have HR:=hid hr
  have HFR:=hid hfr
  have HBS:=hid hbs
  clear hw ho hr hfr hbs
  go_enter Tryz.func65,Tryz.ntmps65
  go_wp2
  go_loopw [7,8] (fun okv i wr=>∃ k:Nat,k≤os.length∧okv=.bool true∧i=.int .i64 k∧Hid (Below y.heap.size y wr)) (fun _ i _=>os.length - (intOf i).toNat)
  case atStart=>exact ⟨0,Nat.zero_le _,by first | rfl | simp,rfl,Below.refl _ _⟩
  case round =>
    obtain ⟨k,hk,rfl,rfl,HB⟩:=hrel
    by_cases hlt:k < os.length
    · have b0:(0:Int)≤(k:Int):=by omega
      have b1:(k:Int) < (os.length:Int):=by omega
      obtain ⟨g0,eg,a0,a1,a2⟩:=(HO.out.below HB.out).at_ k hlt
      obtain ⟨r0,er,d0,d1,d2⟩:=(HR.out.touch (Touch.of_belowAll HB.out (fun _=>False)) (fun _ _ e=>e)).at_ k hlt
      have HOB:=hid ((HO.out.below HB.out).bs k hlt)
      generalize os[k]=ok at *
      obtain ⟨cl,tk,pd⟩:=ok
      dsimp only at *
      subst eg er
      generalize gs k=gb at *
      generalize cs k=cb at *
      generalize os.length=N at *
      simp only [Option.map_some]
      unfold sl at a2
      go_wp2
      have hS0:(fun z:World=>z.cell? ⟨g0,k * 3,none⟩=some (.bool cl)∧z.cell? ⟨g0,k * 3+1,none⟩=some (.int .i64 tk)∧z.cell? ⟨g0,k * 3+2,none⟩=some (.slice (gb.map fun k=>⟨k,0,none⟩) pd.length cb)∧z.cell? ⟨r0,k * 3,none⟩=some (.bool cl)∧z.cell? ⟨r0,k * 3+1,none⟩=some (.int .i64 tk)∧z.cell? ⟨r0,k * 3+2,none⟩=some (.string ⟨pd.toArray⟩)∧(convert 31 9 (.slice (gb.map fun k=>⟨k,0,none⟩) pd.length cb)).run Tryz.prog z=.ok (.string ⟨pd.toArray⟩) z) wr.drew:=⟨a0,a1,a2,d0,d1,d2,conv_bytes gb cb pd wr.drew (HOB.out.below ((Below.refl _ _).drew)).at_⟩
      have HB1:=hid (HB.out.drew)
      clear a0 a1 a2 d0 d1 d2 HOB HB HO HR HFR HBS HWI
      refine wp_region_held_drew (S:=fun z:World=>z.cell? ⟨g0,k * 3,none⟩=some (.bool cl)∧z.cell? ⟨g0,k * 3+1,none⟩=some (.int .i64 tk)∧z.cell? ⟨g0,k * 3+2,none⟩=some (.slice (gb.map fun k=>⟨k,0,none⟩) pd.length cb)∧z.cell? ⟨r0,k * 3,none⟩=some (.bool cl)∧z.cell? ⟨r0,k * 3+1,none⟩=some (.int .i64 tk)∧z.cell? ⟨r0,k * 3+2,none⟩=some (.string ⟨pd.toArray⟩)∧(convert 31 9 (.slice (gb.map fun k=>⟨k,0,none⟩) pd.length cb)).run Tryz.prog z=.ok (.string ⟨pd.toArray⟩) z) (by kernel_rfl) hS0 (fun hS=>?_)
      clear hS0
      refine tH 0 hS ?_
      try simp only [lA,lB,lC,Act.put,lD,lE,lF]
      refine tH 1 hS ?_
      try simp only [lA,lB,lC,Act.put,lD,lE,lF]
      refine tH 2 hS ?_
      try simp only [lA,lB,lC,Act.put,lD,lE,lF]
      refine tH 3 hS ?_
      try simp only [lA,lB,lC,Act.put,lD,lE,lF]
      refine tH 4 hS ?_
      try simp only [lA,lB,lC,Act.put,lD,lE,lF]
      refine tH 5 hS ?_
      try simp only [lA,lB,lC,Act.put,lD,lE,lF]
      refine tH 6 hS ?_ (hy:=by (intro w hw;obtain ⟨s0,s1,s2,s3,s4,s5,s6⟩:=hw;go_simp;try with_reducible rfl))
      try simp only [lA,lB,lC,Act.put,lD,lE,lF]
      refine tH 7 hS ?_
      try simp only [lA,lB,lC,Act.put,lD,lE,lF]
      refine tH 8 hS ?_
      try simp only [lA,lB,lC,Act.put,lD,lE,lF]
      refine tH 9 hS ?_
      try simp only [lA,lB,lC,Act.put,lD,lE,lF]
      refine tH 10 hS ?_
      try simp only [lA,lB,lC,Act.put,lD,lE,lF]
      refine tH 11 hS ?_ (hy:=by (intro w hw;obtain ⟨s0,s1,s2,s3,s4,s5,s6⟩:=hw;go_simp;try with_reducible rfl))
      try simp only [lA,lB,lC,Act.put,lD,lE,lF]
      refine tH 12 hS ?_
      try simp only [lA,lB,lC,Act.put,lD,lE,lF]
      refine tH 13 hS ?_
      try simp only [lA,lB,lC,Act.put,lD,lE,lF]
      refine tH 14 hS ?_
      try simp only [lA,lB,lC,Act.put,lD,lE,lF]
      refine tH 15 hS ?_
      try simp only [lA,lB,lC,Act.put,lD,lE,lF]
      refine tH 16 hS ?_
      try simp only [lA,lB,lC,Act.put,lD,lE,lF]
      refine tH 17 hS ?_
      try simp only [lA,lB,lC,Act.put,lD,lE,lF]
      refine tH 18 hS ?_
      try simp only [lA,lB,lC,Act.put,lD,lE,lF]
      refine tH 19 hS ?_ (hy:=by (intro w hw;obtain ⟨s0,s1,s2,s3,s4,s5,s6⟩:=hw;go_simp;try with_reducible rfl))
      try simp only [lA,lB,lC,Act.put,lD,lE,lF]
      refine tH 20 hS ?_
      try simp only [lA,lB,lC,Act.put,lD,lE,lF]
      refine tH 21 hS ?_
      try simp only [lA,lB,lC,Act.put,lD,lE,lF]
      refine tH 22 hS ?_
      try simp only [lA,lB,lC,Act.put,lD,lE,lF]
      refine tH 23 hS ?_
      try simp only [lA,lB,lC,Act.put,lD,lE,lF]
      refine tH 24 hS ?_ (hy:=by (intro w hw;obtain ⟨s0,s1,s2,s3,s4,s5,s6⟩:=hw;go_simp;try with_reducible rfl))
      try simp only [lA,lB,lC,Act.put,lD,lE,lF]
      refine tH 25 hS ?_
      try simp only [lA,lB,lC,Act.put,lD,lE,lF]
      refine tH 26 hS ?_
      try simp only [lA,lB,lC,Act.put,lD,lE,lF]
      refine tH 27 hS ?_
      try simp only [lA,lB,lC,Act.put,lD,lE,lF]
      refine tH 28 hS ?_
      try simp only [lA,lB,lC,Act.put,lD,lE,lF]
      refine tH 29 hS ?_
      try simp only [lA,lB,lC,Act.put,lD,lE,lF]
      refine tH 30 hS ?_
      try simp only [lA,lB,lC,Act.put,lD,lE,lF]
      refine tH 31 hS ?_
      try simp only [lA,lB,lC,Act.put,lD,lE,lF]
      refine tH 32 hS ?_ (hy:=by (intro w hw;obtain ⟨s0,s1,s2,s3,s4,s5,s6⟩:=hw;go_simp;try with_reducible rfl))
      try simp only [lA,lB,lC,Act.put,lD,lE,lF]
      refine tH 33 hS ?_ (hy:=by (intro w hw;obtain ⟨s0,s1,s2,s3,s4,s5,s6⟩:=hw;go_simp;try with_reducible rfl))
      try simp only [lA,lB,lC,Act.put,lD,lE,lF]
      refine tH 34 hS ?_
      try simp only [lA,lB,lC,Act.put,lD,lE,lF]
      refine tH 35 hS ?_
      try simp only [lA,lB,lC,Act.put,lD,lE,lF]
      refine tH 36 hS ?_
      try simp only [lA,lB,lC,Act.put,lD,lE,lF]
      refine tH 37 hS ?_
      try simp only [lA,lB,lC,Act.put,lD,lE,lF]
      refine tH 38 hS ?_ (hy:=by (intro w hw;obtain ⟨s0,s1,s2,s3,s4,s5,s6⟩:=hw;go_simp;try with_reducible rfl))
      try simp only [lA,lB,lC,Act.put,lD,lE,lF]
      refine tH 39 hS ?_
      try simp only [lA,lB,lC,Act.put,lD,lE,lF]
      refine tH 40 hS ?_
      try simp only [lA,lB,lC,Act.put,lD,lE,lF]
      refine tH 41 hS ?_
      try simp only [lA,lB,lC,Act.put,lD,lE,lF]
      refine wpAnyH_done (by kernel_rfl) ?_ _
      clear hS
      go_wp2
      go_roundw
      case rel =>
        first
        | exact ⟨k+1,by omega,by simp,by go_num,HB1⟩
        | ((repeat apply Exists.intro);refine ⟨?_,rfl⟩;exact ⟨k+1,by omega,by simp,by go_num,HB1⟩)
      case measure=>simp [intOf];omega
    · have HB1:=hid HB.out
      clear HB
      go_wp2
      go_loopw [9] (fun i wr=>∃ (j:Nat) (gh':Option Nat) (cap':Nat) (H':Nat→HG),j≤os.length∧i=.int .i64 j∧Hid (KeptN y W psv lead gh n (4 * j) H (fun q=>∃ t,t < j∧gs t=some q) wr gh' cap' H')) (fun i _=>os.length - (intOf i).toNat)
      case atStart=>exact ⟨0,gh,cap,H,Nat.zero_le _,rfl,(KeptN.start HWI.out _).below HB1.out⟩
      case round =>
        obtain ⟨j,gh',cap',H',hj,rfl,HK⟩:=hrel
        have noT:Hid (∀ q,g=some q→¬ (q=W∨gh=some q∨∃ t,t < j∧gs t=some q)):=fun q e t=>by
          have f:=HFR.out q (.inl e)
          rcases t with t | t | ⟨t,ht,t2⟩
          · exact f.1 t
          · exact f.2.1 t
          · exact HO.out.ne t (by omega) q t2 e
        by_cases hjl:j < os.length
        · have b0:(0:Int)≤(j:Int):=by omega
          have b1:(j:Int) < (os.length:Int):=by omega
          obtain ⟨g0,eg,_,_,a2⟩:=HO.out.at_ j hjl
          have z2:=HK.out.tch.cell a2 (noT.out g0 eg)
          clear a2
          have noB:Hid (∀ q,gs j=some q→¬ ∃ t,t < j∧gs t=some q):=fun q e ⟨t,ht,t2⟩=>HO.out.ds t j ht hjl q t2 e
          have ROW:Hid (OwnRow wr 5 1 (gs j) os[j].b.length (cs j)):=(HO.out.bs j hjl).own.touch HK.out.tch (fun q e t=>by
            have f:=HFR.out q (.inr ⟨j,hjl,e⟩)
            rcases t with t | t | t
            · exact f.1 t
            · exact f.2.1 t
            · exact noB.out q e t)
          have FRE:Hid (∀ q,gs j=some q→Free W gh' (n+4 * j) H' q):=fun q e=>HK.out.fr q ((HO.out.bs j hjl).own.lt e) (HFR.out q (.inr ⟨j,hjl,e⟩)) (noB.out q e)
          have h400:os[j].b.length≤400:=HBS.out _ (List.getElem_mem hjl)
          generalize os[j].b.length=M at *
          generalize hgj:gs j=gj at *
          have HGJ:=hid hgj
          generalize cs j=cj at *
          clear hgj
          unfold sl at z2
          subst eg
          simp only [Option.map_some] at z2 ⊢
          go_wp2_with fail
          refine (keep_hold wr W psv lead gh' (n+4 * j) cap' H' HK.out.wi gj none none M cj 0 0 0 0 ROW.out (.inl ⟨rfl,rfl,rfl⟩) (.inl ⟨rfl,rfl,rfl⟩) (fun g _ e=>by cases e) (fun g _ e=>by cases e) (fun g e=>by cases e)
            (fun k' e=>FRE.out k' (by rcases e with e | e | e;exact e;cases e;cases e)) (by omega) (by omega) (by omega) (by omega)).mono ?_
          rintro e z ⟨rfl,K1⟩
          obtain ⟨gh2,cap2,H2,KN⟩:=HK.out.next K1
          have KN2:Hid (KeptN y W psv lead gh n (4 * (j+1)) H (fun q=>∃ t,t < j+1∧gs t=some q) z gh2 cap2 H2):=KN.mono (fun q e=>by
            rcases e with ⟨t,ht,e⟩ | e | e | e
            · exact ⟨t,by omega,e⟩
            · exact ⟨j,by omega,by rw [HGJ.out];exact e⟩
            · cases e
            · cases e)
          clear K1 KN z2
          go_wp2
          go_roundw
          case rel =>
            first
            | exact ⟨j+1,gh2,cap2,H2,by omega,by go_num,KN2⟩
            | ((repeat apply Exists.intro);refine ⟨?_,rfl⟩;exact ⟨j+1,gh2,cap2,H2,by omega,by go_num,KN2⟩)
          case measure=>simp [intOf];omega
        · have hje:j=os.length:=by omega
          subst hje
          have ROW:Hid (OwnRow wr 71 3 g os.length c):=HO.out.own.touch HK.out.tch noT.out
          have FRE:Hid (∀ q,g=some q→Free W gh' (n+4 * os.length) H' q):=fun q e=>HK.out.fr q (HO.out.own.lt e) (HFR.out q (.inl e)) (fun ⟨t,ht,t2⟩=>HO.out.ne t ht q t2 e)
          go_wp2_with fail
          refine (keep_hold wr W psv lead gh' (n+4 * os.length) cap' H' HK.out.wi none none g 0 0 0 0 os.length c (.inl ⟨rfl,rfl,rfl⟩) (.inl ⟨rfl,rfl,rfl⟩) ROW.out (fun g e=>by cases e) (fun g e=>by cases e) (fun g e=>by cases e)
            (fun k' e=>FRE.out k' (by rcases e with e | e | e;cases e;cases e;exact e)) (by omega) (by omega) (by omega) (by omega)).mono ?_
          rintro e z ⟨rfl,K1⟩
          obtain ⟨gh2,cap2,H2,KN⟩:=HK.out.next K1
          have KN2:Hid (KeptN y W psv lead gh n (4 * os.length+4) H (fun k=>g=some k∨∃ j,j < os.length∧gs j=some k) z gh2 cap2 H2):=KN.mono (fun q e=>by
            rcases e with e | e | e | e
            · exact .inr e
            · cases e
            · cases e
            · exact .inl e)
          clear K1 KN
          go_wp2
          go_ret
          exact ⟨rfl,gh2,cap2,H2,KN2.out⟩
theorem otherTick (x:World) (W:Nat) (psv:Value) (gh:Option Nat) (n cap:Nat) (H:Nat→HG) (hw:WI x W psv true gh n cap H) (pp K Kr:Nat) (hp:x.heap[pp]?=some (.cells #[.pointer (some ⟨K,0,none⟩),.pointer (some ⟨Kr,0,none⟩)] 121 (0,0))) (me:Int) (hm:x.cell? ⟨Kr,1,none⟩=some (.int .i64 me)) (o:OpG) (ho:o.kind=10) (r:Bool) (hr:(me != 0)=r) :
    Calls Tryz.prog 61 #[.pointer (some ⟨W,0,none⟩),.pointer (some ⟨pp,0,none⟩),.agg o.cells] x fun e y=>e=.returned (.bool r)∧Below x.heap.size x y:=by
  have hWl:W < x.heap.size:=heap_lt hw.wb
  have hpl:pp < x.heap.size:=heap_lt hp
  have hKl:Kr < x.heap.size:=World.block_lt_of_cell? _ _ hm
  have w2:=cell_of_heap hw.wb 2
  have p1:=cell_of_heap hp 1
  simp only [List.getElem?_toArray,List.getElem?_cons_zero,List.getElem?_cons_succ] at w2 p1
  clear hw hp
  unfold OpG.cells sla
  obtain ⟨okind,on,l,f,fa,fc,k1,k2,k3,oa⟩:=o
  dsimp only at *
  subst ho
  subst hr
  go_enter Tryz.func61,Tryz.ntmps61
  go_wp2
  go_ret
  exact ⟨rfl,(Below.refl _ _).alloc (Nat.le_refl _) _⟩
def otherR (b:List UInt8):Bool:=match unpackR b with
  | none=>false
  | some f=>(f.kind == 5) || (f.kind == 6) || ((f.kind != 1) && (f.view != 0))
theorem otherHeard (x:World) (W:Nat) (psv:Value) (gh:Option Nat) (n cap:Nat) (H:Nat→HG) (hw:WI x W psv true gh n cap H) (pp:Nat) (o:OpG) (ho:o.kind=9) (hsl:o.s.length≤9000000) :
    Calls Tryz.prog 61 #[.pointer (some ⟨W,0,none⟩),.pointer (some ⟨pp,0,none⟩),.agg o.cells] x fun e y=>e=.returned (.bool (otherR o.s))∧Below x.heap.size x y:=by
  have hWl:W < x.heap.size:=heap_lt hw.wb
  have w2:=cell_of_heap hw.wb 2
  simp only [List.getElem?_toArray,List.getElem?_cons_zero,List.getElem?_cons_succ] at w2
  clear hw
  unfold OpG.cells sla
  obtain ⟨okind,on,l,f,fa,fc,k1,k2,k3,oa⟩:=o
  dsimp only at *
  subst ho
  unfold otherR
  cases hR:unpackR l with
  | none =>
    have HU:Hid (∀ z,Calls Tryz.prog 97 #[.string ⟨l.toArray⟩] z fun e w'=>∃ (g:Option Nat) (c:Nat),e=.returned (.tuple #[.agg #[.int .i64 0,.int .i64 0,.int .i64 0,.int .i64 0,.int .i64 0,.int .i64 0,.int .i64 0,.int .i64 0,.string ⟨#[]⟩,.slice (g.map fun k:Nat=>(⟨k,0,none⟩:Addr)) 0 c],.int .i64 3])∧Below z.heap.size z w'):=fun z=>(refUnpack_any l z (by omega)).mono (by
      rintro e w' ⟨g,c,he,ho,hb⟩
      obtain ⟨u1,u2⟩:=un_no hR
      rw [u1] at he ho
      rw [u2] at he
      exact ⟨g,c,he,hb⟩)
    clear hR
    go_enter Tryz.func61,Tryz.ntmps61
    go_wp2_with fail
    refine (HU.out _).mono ?_
    rintro e X ⟨g,c,rfl,hb1⟩
    have HB:Hid (Below x.heap.size x X):=((Below.refl _ x).alloc (Nat.le_refl _) _).trans (hb1.mono (by simp))
    clear hb1 HU
    go_wp2
    go_ret
    exact ⟨rfl,HB.out.alloc HB.out.size _⟩
  | some q =>
    obtain ⟨kind,frm,view,place,agreed,last,⟨lc,lt,sb⟩,ls⟩:=q
    dsimp only
    have HU:Hid (∀ z,Calls Tryz.prog 97 #[.string ⟨l.toArray⟩] z fun e w'=>∃ g c,e=.returned (.tuple #[.agg #[.int .i64 kind,.int .i64 frm,.int .i64 view,.int .i64 place,.int .i64 agreed,.int .i64 last,.int .i64 lc,.int .i64 lt,.string ⟨sb.toArray⟩,.slice (g.map fun k=>⟨k,0,none⟩) ls.length c],.int .i64 0])∧OwnLines z w' g c ls∧Below z.heap.size z w'):=fun z=>(refUnpack_any l z (by omega)).mono (by
      rintro e w' ⟨g,c,he,ho,hb⟩
      obtain ⟨u1,u2⟩:=un_yes hR
      rw [u1] at he ho
      rw [u2] at he
      exact ⟨g,c,he,ho,hb⟩)
    clear hR
    have key:∀ r,((kind == 5) || (kind == 6) || ((kind != 1) && (view != 0)))=r→((kind=5∧r=true)∨(kind=6∧r=true)∨(kind=1∧r=false)∨((kind == 5)=false∧(kind == 6)=false∧(kind != 1)=true∧(view != 0)=r)):=by
      intro r hr
      by_cases h5:kind=5
      · subst h5;exact .inl ⟨rfl,by simpa using hr.symm⟩
      by_cases h6:kind=6
      · subst h6;exact .inr (.inl ⟨rfl,by simpa using hr.symm⟩)
      by_cases h1:kind=1
      · subst h1;exact .inr (.inr (.inl ⟨rfl,by simpa using hr.symm⟩))
      have e5:(kind == 5)=false:=beq_eq_false_iff_ne.2 h5
      have e6:(kind == 6)=false:=beq_eq_false_iff_ne.2 h6
      have e1:(kind != 1)=true:=bne_iff_ne.2 h1
      rw [e5,e6,e1] at hr
      exact .inr (.inr (.inr ⟨e5,e6,e1,by simpa using hr⟩))
    obtain ⟨r,hr⟩:∃ r,((kind == 5) || (kind == 6) || ((kind != 1) && (view != 0)))=r:=⟨_,rfl⟩
    have hc:=key r hr
    rw [hr]
    clear hr key
    rcases hc with ⟨rfl,rfl⟩ | ⟨rfl,rfl⟩ | ⟨rfl,rfl⟩ | ⟨e5,e6,e1,er⟩
    · go_enter Tryz.func61,Tryz.ntmps61
      go_wp2_with fail
      refine (HU.out _).mono ?_
      rintro e X ⟨g,c,rfl,ho,hb1⟩
      have HB:Hid (Below x.heap.size x X):=((Below.refl _ x).alloc (Nat.le_refl _) _).trans (hb1.mono (by simp))
      clear hb1 HU ho
      go_wp2
      go_ret
      exact ⟨rfl,HB.out.alloc HB.out.size _⟩
    · go_enter Tryz.func61,Tryz.ntmps61
      go_wp2_with fail
      refine (HU.out _).mono ?_
      rintro e X ⟨g,c,rfl,ho,hb1⟩
      have HB:Hid (Below x.heap.size x X):=((Below.refl _ x).alloc (Nat.le_refl _) _).trans (hb1.mono (by simp))
      clear hb1 HU ho
      go_wp2
      go_ret
      exact ⟨rfl,HB.out.alloc HB.out.size _⟩
    · go_enter Tryz.func61,Tryz.ntmps61
      go_wp2_with fail
      refine (HU.out _).mono ?_
      rintro e X ⟨g,c,rfl,ho,hb1⟩
      have HB:Hid (Below x.heap.size x X):=((Below.refl _ x).alloc (Nat.le_refl _) _).trans (hb1.mono (by simp))
      clear hb1 HU ho
      go_wp2
      go_ret
      exact ⟨rfl,HB.out.alloc HB.out.size _⟩
    · go_enter Tryz.func61,Tryz.ntmps61
      go_wp2_with fail
      refine (HU.out _).mono ?_
      rintro e X ⟨g,c,rfl,ho,hb1⟩
      have HB:Hid (Below x.heap.size x X):=((Below.refl _ x).alloc (Nat.le_refl _) _).trans (hb1.mono (by simp))
      clear hb1 HU ho
      go_wp2
      go_ret
      exact ⟨rfl,HB.out.alloc HB.out.size _⟩
def recBytes (inner:List UInt8):List UInt8:=withChk (byteOf inner.length :: inner)
theorem whole_go (a:Option Addr) (n c:Nat) (inner:List UInt8) (w:World) (hb:BytesIn w a inner) (hl:inner.length=n) (hn:inner.length≤1000) :
    Calls Tryz.prog 184 #[.slice a n c] w fun e w'=>∃ g cq,e=.returned (.slice (some ⟨g,0,none⟩) (recBytes inner).length cq)∧OwnBytes w w' (some g) cq (recBytes inner)∧Below w.heap.size w w':=by
  have HI:=hid hb
  clear hb
  subst hl
  unfold recBytes
  go_enter Tryz.func184,Tryz.ntmps184
  obtain ⟨Y,hY⟩:∃ Y,Y=w.alloc (.cells #[.int .u8 ((inner.length:Int) % 256)] 5):=⟨_,rfl⟩
  have HYb:Hid (Below w.heap.size w Y):=by show Below _ _ _;rw [hY];exact (Below.refl _ _).alloc (Nat.le_refl _) _
  have HOB:Hid (OwnBytes w Y (some w.heap.size) 1 [byteOf inner.length]):=by
    have hh:Y.heap[w.heap.size]?=some (.cells #[.int .u8 ((inner.length:Int) % 256)] 5 (0,0)):=by rw [hY];exact heap_alloc_new w _
    refine ⟨fun j hj=>⟨w.heap.size,rfl,?_⟩,.inr ⟨_,_,rfl,hh,rfl,Nat.le_refl _,by simp only [maxLen];omega⟩,fun k e=>by cases e;exact Nat.le_refl _⟩
    have:j=0:=by simpa using hj
    subst this
    rw [cell_of_heap hh]
    have:=byteOf_cell (inner.length:Int)
    simp only [List.getElem?_toArray,List.getElem?_cons_zero,List.getElem_cons_zero]
    rw [this]
  obtain ⟨b',c',w2,hr,ho,hb2⟩:=run_appB (l2:=inner) 31 31 (.slice a inner.length c) HOB.out HYb.out (bytes_src a inner.length c inner Y (HI.out.below HYb.out) rfl) (by simp;omega)
  obtain ⟨gb,rfl⟩:∃ gb,b'=some gb:=by obtain ⟨k,e,_⟩:=ho.at_ 0 (by simp);exact ⟨k,e⟩
  rw [List.singleton_append] at ho
  have hl2:(byteOf inner.length :: inner).length=1+inner.length:=by simp;omega
  have CA:Hid (∃ z,z=w2∧Calls Tryz.prog 72 #[.slice (some ⟨gb,0,none⟩) (1+inner.length) c'] w2 fun e w'=>∃ g' cq,e=.returned (.slice (some ⟨g',0,none⟩) (withChk (byteOf inner.length :: inner)).length cq)∧Grew w2 w' (some gb) g' cq (withChk (byteOf inner.length :: inner))):=⟨w2,rfl,by
    have:=checkAppend_any gb c' (byteOf inner.length :: inner) w2 ho.at_ ho.own (by rw [hl2];omega)
    rw [hl2] at this;exact this⟩
  have hr2:(Builtin.append_ #[31,31] 31 #[.slice (some ⟨w.heap.size,0,none⟩) 1 1,.slice a inner.length c]).run Tryz.prog Y=.ok (.slice (some ⟨gb,0,none⟩) (1+inner.length) c') w2:=hr
  have HR:=hid hr2
  have HO:=hid ho
  have HB2:=hid hb2
  have HY:=hid hY
  have HXX:Hid (∀ g cq w',Grew w2 w' (some gb) g cq (withChk (byteOf inner.length :: inner))→OwnBytes w w' (some g) cq (withChk (byteOf inner.length :: inner))∧Below w.heap.size w w'):=fun g cq w' G=>by
    refine ⟨⟨G.at_,G.own,fun k e=>?_⟩,hb2.trans (G.touch.below hb2.size (fun k _ e=>ho.new k e))⟩
    have e:=Option.some.inj e
    subst e
    rcases G.lies with e | e
    · exact ho.new _ e
    · have:=hb2.size;omega
  clear hr hr2 ho hb2 hY hl2 HOB
  go_wp2_with (at_builtin;rw [← HY.out];refine wpList_appRun rfl (.tmp 6) (.tmp 7) 31 31 rfl _ _ _ _ rfl rfl HR.out ?_)
  go_wp2_with fail
  obtain ⟨_,_,CC⟩:=CA.out
  refine CC.mono ?_
  rintro e w3 ⟨g',cq,rfl,G⟩
  have HG:=hid (HXX.out g' cq w3 G)
  clear G CC
  go_wp2
  go_ret
  exact ⟨g',cq,rfl,HG.out.1,HG.out.2⟩
theorem run_appR {w:World} {b:Option Nat} {c:Nat} {l l2:List UInt8} (ty tx:TypeId) (x:Value) (ha:BytesAt w b l) (ho:OwnRow w 5 1 b l.length c) (hs:Src Tryz.prog 1 tx x l2.length (u8cells l2) w) (hn:l.length+l2.length≤100000000) :
    ∃ b' c' w',(Builtin.append_ #[31,tx] ty #[sl b l.length c,x]).run Tryz.prog w=.ok (sl b' (l.length+l2.length) c') w'∧BytesAt w' b' (l++l2)∧OwnRow w' 5 1 b' (l++l2).length c'∧Touch (fun k=>b=some k) w w'∧∀ k,b'=some k→b=some k∨w.heap.size≤k:=by
  obtain ⟨ib,hib,hib0,hib1,hib2⟩:=info_parts Tryz.info5
  cases b with
  | none =>
    rcases ho with ⟨_,h1,h2⟩ | ⟨g,_,h1,_⟩
    · have hl:l=[]:=by cases l with
        | nil=>rfl
        | cons _ _=>simp at h1
      subst hl
      subst h2
      obtain ⟨b',c',w',hr,P⟩:=run_appN (P:=Tryz.prog) w 31 tx ty 5 ib (.int .u8 0) 1 1 Tryz.underlying31 hib hib0 hib1 hib2 rfl x l2.length (u8cells l2) hs (by omega) (by omega)
      have PB:=P.bytes rfl
      exact ⟨b',c',w',by rw [List.length_nil,Nat.zero_add];exact hr,by rw [List.nil_append];exact PB.1,by rw [List.nil_append];exact PB.2,Touch.of_belowAll P.below _,fun k e=>.inr (P.fresh k e)⟩
    · cases h1
  | some g =>
    obtain ⟨g',c',w',hr,P⟩:=run_appS (P:=Tryz.prog) w 31 tx ty 5 ib (.int .u8 0) 1 1 Tryz.underlying31 hib hib0 hib1 hib2 rfl g l.length c ho x l2.length (u8cells l2) hs (by omega) (by omega)
    have G:=(Grew.refl ha ho).app P rfl rfl rfl
    refine ⟨some g',c',w',hr,G.at_,G.own,G.touch,fun k e=>?_⟩
    have e:=Option.some.inj e
    subst e
    exact G.lies
theorem setAll_mid {B:Nat} {e:TypeId} {f:Nat × Nat} (post:List Value) (vs:List Value):∀ (w:World) (pre rest:List Value),w.heap[B]?=some (.cells (pre++rest++post).toArray e f)→rest.length=vs.length→(setAll w B pre.length vs).heap[B]?=some (.cells (pre++vs++post).toArray e f):=by
  induction vs with
  | nil =>
    intro w pre rest h hl
    have:rest=[]:=List.eq_nil_of_length_eq_zero (by simpa using hl)
    subst this
    exact h
  | cons v vs ih =>
    intro w pre rest h hl
    cases rest with
    | nil=>simp at hl
    | cons r rest =>
      have h1:=heap_setCell h pre.length v
      have h2:(pre++r :: rest++post).toArray.setIfInBounds pre.length v=((pre++[v])++rest++post).toArray:=by simp
      rw [h2] at h1
      have:=ih (w.setCell ⟨B,pre.length,none⟩ v) (pre++[v]) rest h1 (by simpa using hl)
      rw [List.length_append,List.length_singleton] at this
      unfold setAll
      rw [this,List.append_assoc];simp
structure Chg (w w':World) (B:Nat) (v v':PV):Prop where
  at_:v'.At w' B
  tch:Touch (fun k=>v.own B k) w w'
  new:∀ k,v'.own B k→v.own B k∨w.heap.size≤k
theorem Chg.same {w w':World} {B:Nat} {v:PV} (h:v.At w B) (hb:Below w.heap.size w w'):Chg w w' B v v:=⟨h.below hb,Touch.of_belowAll hb _,fun _ e=>.inl e⟩
theorem PV.At.ownlt {v:PV} {w:World} {B:Nat} (h:v.At w B) {k:Nat} (e:v.own B k):k < w.heap.size:=by
  rcases e with e | e | e | e
  · subst e;exact h.lt
  · exact h.dow.lt e
  · exact h.low.lt e
  · exact h.fow.lt e
theorem Chg.trans {w x y:World} {B:Nat} {v u t:PV} (h:Chg w x B v u) (k:Chg x y B u t):Chg w y B v t :=
  ⟨k.at_,h.tch.trans k.tch (fun i hi e=>by
    rcases h.new i e with e | e
    · exact e
    · omega),fun i e=>by
    rcases k.new i e with e | e
    · exact h.new i e
    · exact .inr (Nat.le_trans h.tch.size e)⟩
theorem Chg.below {w x y:World} {B:Nat} {v u:PV} (h:Chg w x B v u) (hb:Below x.heap.size x y):Chg w y B v u:=h.trans (Chg.same h.at_ hb)
theorem Chg.of {w x y:World} {B:Nat} {v u:PV} (hb:Below w.heap.size w x) (hv:v.At w B) (h:Chg x y B v u):Chg w y B v u:=(Chg.same hv hb).trans h
theorem writeFailV (v:PV) (B:Nat) (w:World) (h:v.At w B) (hl:v.lost=[]) (harm:v.arm=1) (a:Option Addr) (n c:Nat) (inner:List UInt8) (hb:BytesIn w a inner) (hil:inner.length=n) (hin:inner.length≤1000) :
    Calls Tryz.prog 163 #[.pointer (some ⟨B,3,none⟩),.slice a n c] w fun e w'=>∃ gf cf,e=.returned (.bool false)∧Chg w w' B v { v with m:=Mm.zero,arm:=0,lost:=recBytes inner,gl:=none,cl:=0,gf:=some gf,cf:=cf }:=by
  have FV:=hid (failedV v B w h)
  rw [hl] at FV
  have HW:Hid (∀ z,Below w.heap.size w z→Calls Tryz.prog 184 #[.slice a n c] z fun e w'=>∃ g cq,e=.returned (.slice (some ⟨g,0,none⟩) (recBytes inner).length cq)∧OwnBytes z w' (some g) cq (recBytes inner)∧Below z.heap.size z w'):=fun z hz=>whole_go a n c inner z (hb.below hz) hil hin
  have C7:Hid (w.cell? ⟨B,7,none⟩=some (.int .i64 1)):=by have:=cell_of_heap h.blk 7;rw [harm] at this;exact this
  have C3:Hid (w.cell? ⟨B,3,none⟩=some (.slice (v.gd.map fun k=>⟨k,0,none⟩) v.d.length v.cd)):=cell_of_heap h.blk 3
  have HV:=hid h
  have hB:=h.lt
  clear h hb hil hin harm hl
  go_enter Tryz.func163,Tryz.ntmps163
  go_wp2_with fail
  refine FV.out.mono ?_
  rintro e X0 ⟨rfl,hb0⟩
  have HB0:=hid hb0
  have c7:=(hb0.cell (World.block_lt_of_cell? _ _ C7.out)).trans C7.out
  have C30:=hid ((hb0.cell (World.block_lt_of_cell? _ _ C3.out)).trans C3.out)
  clear hb0 FV
  simp only [List.length_nil,Nat.lt_irrefl,decide_false]
  go_wp2
  have HSB:Hid (∀ z,Below w.heap.size w z→(Below w.heap.size w z∧z.cell? ⟨B,3,none⟩=some (.slice (v.gd.map fun k=>⟨k,0,none⟩) v.d.length v.cd))):=fun z hz=>⟨hz,(hz.cell (World.block_lt_of_cell? _ _ C3.out)).trans C3.out⟩
  refine wp_region_held_drew (S:=fun z:World=>z.cell? ⟨B,3,none⟩=some (.slice (v.gd.map fun k=>⟨k,0,none⟩) v.d.length v.cd)) (by kernel_rfl) (HSB.out _ HB0.out.drew).2 (fun hS=>?_)
  refine tH 0 hS ?_
  try simp only [lA,lB,lC,Act.put,lD,lE,lF]
  refine tH 1 hS ?_
  try simp only [lA,lB,lC,Act.put,lD,lE,lF]
  refine tH 2 hS ?_
  try simp only [lA,lB,lC,Act.put,lD,lE,lF]
  refine tH 3 hS ?_
  try simp only [lA,lB,lC,Act.put,lD,lE,lF]
  refine tH 5 hS ?_
  try simp only [lA,lB,lC,Act.put,lD,lE,lF]
  refine tH 4 hS ?_ (hy:=by (intro w hw;have s1:=hw;clear hw;go_simp;try with_reducible rfl))
  try simp only [lA,lB,lC,Act.put,lD,lE,lF]
  refine wpAnyH_ready (rs:=[6]) (by kernel_rfl) (by simp) ?_
  refine AllReadyH.cons rfl (fun K hK=>?_) AllReadyH.nil
  go_simp
  refine (HW.out _ HB0.out.drew).mono ?_
  rintro e X1 ⟨gf,cf,rfl,ho,hbf⟩
  have HB1:=hid (HB0.out.drew.trans (hbf.mono HB0.out.size))
  have HO:=hid (ho.base (u:=w) HB0.out.size)
  clear hbf ho
  refine hK.out _ _ (HSB.out _ HB1.out).2 (fun hS=>?_)
  clear hK K
  refine tH 7 hS ?_
  try simp only [lA,lB,lC,Act.put,lD,lE,lF]
  refine tH 8 hS ?_
  try simp only [lA,lB,lC,Act.put,lD,lE,lF]
  have HV1:=hid (HV.out.below HB1.out)
  have q3:=cell_of_heap HV1.out.blk 3
  have q4:=cell_of_heap HV1.out.blk 4
  have q5:=cell_of_heap HV1.out.blk 5
  have q6:=cell_of_heap HV1.out.blk 6
  have q7:=cell_of_heap HV1.out.blk 7
  have q8:=cell_of_heap HV1.out.blk 8
  unfold progCells at q3 q4 q5 q6 q7 q8
  simp only [List.getElem?_toArray,List.getElem?_cons_zero,List.getElem?_cons_succ] at q3 q4 q5 q6 q7 q8
  have fq:∀ j,X1.frozen? ⟨B,j,none⟩=false:=fun j=>frozen_of_heap HV1.out.blk j
  refine wpAnyH_ready (rs:=[9]) (by kernel_rfl) (by simp) ?_
  refine AllReadyH.cons rfl (fun KK hKK=>?_) AllReadyH.nil
  go_simp
  have hblk:=HV1.out.blk
  unfold progCells at hblk
  have h6:=setAll_mid [.int .i64 v.ag,.int .i64 (v.hs 0),.int .i64 (v.hs 1),.int .i64 (v.hs 2),.int .i64 (v.hs 3),.int .i64 (v.hs 4),.int .i64 0,.bool false,.bool false,.bool false,.bool false,.bool false,.slice none 0 0,.bool false] [sl v.gd v.d.length v.cd,.int .i64 0,.int .i64 0,.slice none 0 0,.int .i64 0,.slice (some ⟨gf,0,none⟩) (recBytes inner).length cf] X1 [.int .i64 v.kp,.int .i64 v.me,.int .i64 v.pa] [sl v.gd v.d.length v.cd,.int .i64 v.m.view,.int .i64 v.m.last,sl v.gl v.m.ls.length v.cl,.int .i64 v.arm,sl v.gf v.lost.length v.cf] hblk rfl
  have t6:=setAll_touch B [sl v.gd v.d.length v.cd,.int .i64 0,.int .i64 0,.slice none 0 0,.int .i64 0,.slice (some ⟨gf,0,none⟩) (recBytes inner).length cf] X1 3
  change KK _ (setAll X1 B 3 [sl v.gd v.d.length v.cd,.int .i64 0,.int .i64 0,.slice none 0 0,.int .i64 0,.slice (some ⟨gf,0,none⟩) (recBytes inner).length cf])
  have h6':(setAll X1 B 3 [sl v.gd v.d.length v.cd,.int .i64 0,.int .i64 0,.slice none 0 0,.int .i64 0,.slice (some ⟨gf,0,none⟩) (recBytes inner).length cf]).heap[B]?=_:=h6
  clear h6
  generalize setAll X1 B 3 [sl v.gd v.d.length v.cd,.int .i64 0,.int .i64 0,.slice none 0 0,.int .i64 0,.slice (some ⟨gf,0,none⟩) (recBytes inner).length cf]=Z at *
  have hgB:∀ k,(some gf:Option Nat)=some k→w.heap.size≤k:=HO.out.new
  have CH:Hid (Chg w Z B v { v with m:=Mm.zero,arm:=0,lost:=recBytes inner,gl:=none,cl:=0,gf:=some gf,cf:=cf }):=by
    have ndB:∀ k,v.gd=some k→¬ (k=B):=fun k e e2=>HV.out.ne1.1 (by rw [e,e2])
    have nfB:∀ k,(some gf:Option Nat)=some k→¬ (k=B):=fun k e e2=>by have:=hgB k e;omega
    refine ⟨⟨h6',HV1.out.db.touch t6 ndB,HV1.out.dow.touch t6 ndB,fun j hj=>absurd hj (by simp [Mm.zero]),.inl ⟨rfl,rfl,rfl⟩,HO.out.at_.touch t6 nfB,HO.out.own.touch t6 nfB,⟨HV.out.ne1.1,(fun e=>by cases e),fun e=>nfB B e rfl⟩,(fun k _ e=>by cases e),fun k e e2=>?_,(fun k e=>by cases e)⟩,?_,fun k e=>?_⟩
    · have:=hgB k e2;have:=HV.out.dow.lt e;omega
    · exact (Touch.of_belowAll HB1.out _).trans t6 (fun i _ e=>.inl e)
    · rcases e with e | e | e | e
      · exact .inl (.inl e)
      · exact .inl (.inr (.inl e))
      · cases e
      · exact .inr (hgB k e)
  have z3:Z.cell? ⟨B,3,none⟩=some (.slice (v.gd.map fun k=>⟨k,0,none⟩) v.d.length v.cd):=cell_of_heap h6' 3
  clear h6' t6 hblk
  refine hKK.out _ _ z3 (fun hS=>?_)
  clear hKK KK hS
  refine wpAnyH_done (by kernel_rfl) ?_ _
  go_wp2
  go_ret
  exact ⟨gf,cf,rfl,CH.out⟩
end
end Go.Proofs.YtolififimldmlaaGreat
