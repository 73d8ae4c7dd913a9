import Derived.Test.YtolififimldmlaaGreatPart17
import Derived.Test.YtolififimldmlaaGreatPart09
import Derived.Test.YtolififimldmlaaGreatPart15
import Derived.StillTailTactics
set_option linter.unusedVariables false
set_option linter.unusedSimpArgs false
set_option maxRecDepth 100000
set_option maxHeartbeats 16000000
namespace Go.Proofs.YtolififimldmlaaGreat
section
open Go.RowKit
attribute [local go_sem ↓] Go.wp_at_zero Go.wp_at_succ
abbrev KeeperIs:=World→Nat→(Nat→Prop)→LK→Prop
def OpenSaid (KIs:KeeperIs):Prop:=∀ (kp me pa:Int) (s:List UInt8) (g0 cap:Nat) (w:World),BytesIn w (some ⟨g0,0,none⟩) s→s.length≤10000000→s.length≤cap →
  Calls Tryz.prog 25 #[.agg #[.int .i64 kp,.int .i64 me,.int .i64 pa],.slice (some ⟨g0,0,none⟩) s.length cap] w fun e w' =>
    Below w.heap.size w w'∧((¬ ConfOk kp me pa∧e=.returned (.tuple #[.pointer none,.int .i64 1])) ∨
      (ConfOk kp me pa∧∃ K F,e=.returned (.tuple #[.pointer (some ⟨K,0,none⟩),.int .i64 0])∧KIs w' K F (LK.opened kp me pa (s.take (readD s).2) (readD s).1)∧∀ k,F k→w.heap.size≤k∧k < w'.heap.size))
def KeepsSaid (KIs:KeeperIs):Prop:=∀ (T:Nat→Prop) (w w':World) (K:Nat) (F:Nat→Prop) (s:LK),KIs w K F s→Touch T w w'→(∀ k,F k→¬ T k)→KIs w' K F s
theorem RefOpened.no {w w':World} {kp me pa:Int} {s:List UInt8} {e:Ending} (h:RefOpened w kp me pa s e w') (hc:¬ ConfOk kp me pa):Below w.heap.size w w'∧e=.returned (.tuple #[.pointer none,.int .i64 1]):=by
  obtain ⟨hb,h | h⟩:=h
  · exact ⟨hb,h.2⟩
  · exact absurd h.1 hc
theorem refOpen_any (kp me pa:Int) (s:List UInt8) (w:World) (hn:s.length≤10000000):Calls Tryz.prog 148 #[.agg #[.int .i64 kp,.int .i64 me,.int .i64 pa],.string ⟨s.toArray⟩] w (RefOpened w kp me pa s):=by
  by_cases hc:ConfOk kp me pa
  · exact refOpen_yes kp me pa s w hc hn
  · exact refOpen_no kp me pa s w hc
structure Stays (x:World) (W:Nat) (psv:Value) (lead:Bool) (gh:Option Nat) (n m:Nat) (H:Nat→HG) (y:World) (N:Nat→Prop):Prop where
  ex:∃ gh' cap' H',WI y W psv lead gh' (n+m) cap' H'∧(∀ k,gh'=some k→gh=some k∨x.heap.size≤k)∧(∀ k,k < x.heap.size→Free W gh n H k→Free W gh' (n+m) H' k)∧(∀ k,N k→Free W gh' (n+m) H' k)
  tch:Touch (fun k=>k=W∨gh=some k) x y
theorem opened_no (KIs:KeeperIs) (HOS:OpenSaid KIs) (x:World) (W:Nat) (psv:Value) (lead:Bool) (gh:Option Nat) (n cap:Nat) (H:Nat→HG) (hw:WI x W psv lead gh n cap H) (hn:n≤99000000)
    (kp me pa:Int) (l:List UInt8) (hsl:l.length≤9900000) (hc:¬ ConfOk kp me pa) :
    Calls Tryz.prog 99 #[.pointer (some ⟨W,0,none⟩),.agg #[.int .i64 kp,.int .i64 me,.int .i64 pa],.string ⟨l.toArray⟩] x fun e y=>e=.returned (.tuple #[.pointer none,.bool true])∧Stays x W psv lead gh n 4 H y (fun _=>False):=by
  have HWI:=hid hw
  have HC:=hid hc
  clear hw hc
  go_enter Tryz.func99,Tryz.ntmps99
  go_wp2_with fail
  refine (lent_any l _ (by omega)).mono ?_
  rintro e X1 ⟨rfl,hle,hb1⟩
  rw [World.size_alloc] at hle hb1
  have HLE:=hid hle
  have hs1:x.heap.size+1 < X1.heap.size:=hle.own.lt rfl
  have hs1b:x.heap.size < X1.heap.size:=by omega
  have HX1:Hid (Below x.heap.size x X1):=((Below.refl _ x).alloc (Nat.le_refl _) _).trans (hb1.mono (by omega))
  have HCB:Hid (MBox x.heap.size 63 (.int .i64 kp) (.int .i64 me) (.int .i64 pa) X1):=by
    show _=_
    rw [hb1.block _ (by omega)];exact heap_alloc_new x _
  have b1:(0:Int)≤(l.length:Int):=by omega
  have b2:(l.length:Int)≤(l.length:Int)+8:=by omega
  clear hle hb1
  obtain ⟨c0,c1,c2,fc⟩:=mbox_cells HCB.out
  go_wp2
  refine wp_region_any (by kernel_rfl) ?_
  try (change wpAny _ _ _ _ _ _ _ (World.drew _))
  refine tA 1 ?_
  try simp only [lA,lB,lC,Act.put,lD,lE,lF]
  refine tA 2 ?_
  try simp only [lA,lB,lC,Act.put,lD,lE,lF]
  refine tA 3 ?_
  try simp only [lA,lB,lC,Act.put,lD,lE,lF]
  refine tA 4 ?_
  try simp only [lA,lB,lC,Act.put,lD,lE,lF]
  refine wpAny_ready (rs:=[0]) (by kernel_rfl) (by simp) ?_
  refine AllReady.cons rfl (fun K hK=>?_) AllReady.nil
  go_simp
  refine hK _ _ ?_
  clear hK K
  refine wpAny_ready (rs:=[5]) (by kernel_rfl) (by simp) ?_
  refine AllReady.cons rfl (fun K hK=>?_) AllReady.nil
  go_simp
  refine (HOS kp me pa l (x.heap.size+1) (l.length+8) _ (fun j hj=>⟨_,_,rfl,by rw [Nat.zero_add];exact HLE.out.at_ j hj⟩) (by omega) (by omega)).mono ?_
  rintro e X2 ⟨hb2,h2⟩
  rcases h2 with ⟨_,rfl⟩ | ⟨hcc,_⟩
  · have hb12:Below X1.heap.size X1 X2:=(Below.refl _ X1).drew.trans hb2
    have HLE2:=hid (HLE.out.below hb12)
    have HX2:=hid (HX1.out.trans (hb12.mono HX1.out.size))
    have HCB2:=hid (HCB.out.below hb12)
    have hz2:X1.heap.size≤X2.heap.size:=hb12.size
    clear hb2 hb12 c0 c1 c2 fc
    obtain ⟨c0,c1,c2,fc⟩:=mbox_cells HCB2.out
    go_simp
    refine hK _ _ ?_
    clear hK K
    refine tA 6 ?_
    try simp only [lA,lB,lC,Act.put,lD,lE,lF]
    refine tA 7 ?_
    try simp only [lA,lB,lC,Act.put,lD,lE,lF]
    refine tA 8 ?_
    try simp only [lA,lB,lC,Act.put,lD,lE,lF]
    refine wpAny_ready (rs:=[9]) (by kernel_rfl) (by simp) ?_
    refine AllReady.cons rfl (fun K hK=>?_) AllReady.nil
    go_simp
    refine hK _ _ ?_
    clear hK K
    refine wpAny_ready (rs:=[10]) (by kernel_rfl) (by simp) ?_
    refine AllReady.cons rfl (fun K hK=>?_) AllReady.nil
    go_simp
    refine hK _ _ ?_
    clear hK K
    refine wpAny_done (by kernel_rfl) ?_ _
    go_wp2_with fail
    refine (refOpen_any kp me pa l _ (by omega)).mono ?_
    intro e X3 h3
    obtain ⟨hb3,rfl⟩:=h3.no HC.out
    have HLE3:=hid (HLE2.out.below hb3)
    have HX3:=hid (HX2.out.trans (hb3.mono HX2.out.size))
    have hz3:X2.heap.size≤X3.heap.size:=hb3.size
    clear h3 hb3 c0 c1 c2 fc
    go_wp2_with fail
    refine (still_any l (x.heap.size+1) (l.length+8) _ (by omega) HLE3.out).mono ?_
    rintro e X5 ⟨rfl,hb5⟩
    have HLE5:=hid (HLE3.out.below hb5)
    have HX5:=hid (HX3.out.trans (hb5.mono HX3.out.size))
    have hz5:X3.heap.size≤X5.heap.size:=hb5.size
    clear hb5
    have WY:=hid (HWI.out.below HX5.out)
    go_wp2_with fail
    refine (keep_hold X5 W psv lead gh n cap H WY.out (some (x.heap.size+1)) none none (l.length+8) (l.length+8) 0 0 0 0 HLE5.out.own (.inl ⟨rfl,rfl,rfl⟩) (.inl ⟨rfl,rfl,rfl⟩) (fun g _ e=>by cases e) (fun g _ e=>by cases e) (fun g e=>by cases e)
      (fun k' e=>HWI.out.free_new (by rcases e with e | e | e;(cases e;omega);cases e;cases e)) (by omega) (by omega) (by omega) (by omega)).mono ?_
    rintro e Y1 ⟨rfl,K1⟩
    obtain ⟨⟨gh1,cap1,H1,W1,gg1,f1⟩,t1⟩:=K1
    have ST:Hid (Stays x W psv lead gh n 4 H Y1 (fun _=>False)):=by
      refine ⟨⟨gh1,cap1,H1,W1,fun k e=>?_,fun k hk hf=>f1 k (by omega) hf (fun t=>?_),fun k e=>e.elim⟩,?_⟩
      · rcases gg1 k e with e | e
        · exact .inl e
        · exact .inr (by omega)
      · rcases t with t | t | t
        · have:=Option.some.inj t;omega
        · cases t
        · cases t
      · refine (Touch.of_belowAll HX5.out _).trans t1 (fun i hi t=>?_)
        rcases t with t | t | t | t | t
        · exact .inl t
        · exact .inr t
        · have:=Option.some.inj t;omega
        · cases t
        · cases t
    clear W1 gg1 f1 t1
    go_wp2
    go_ret2
    exact ⟨rfl,ST.out⟩
  · exact absurd hcc HC.out
def Player (KIs:KeeperIs) (y:World) (p:Nat) (N:Nat→Prop) (s:LK):Prop :=
  ∃ K F Kr G,y.heap[p]?=some (.cells #[.pointer (some ⟨K,0,none⟩),.pointer (some ⟨Kr,0,none⟩)] 121 (0,0))∧KIs y K F s∧RIs y Kr G s∧(∀ k,N k↔(k=p∨F k∨G k))∧(∀ k,F k→¬ G k)∧¬ F p∧¬ G p
theorem Player.touch {KIs:KeeperIs} (HKS:KeepsSaid KIs) {T:Nat→Prop} {y z:World} {p:Nat} {N:Nat→Prop} {s:LK} (h:Player KIs y p N s) (ht:Touch T y z) (hn:∀ k,N k→¬ T k):Player KIs z p N s:=by
  obtain ⟨K,F,Kr,G,h1,h2,h3,h5,h6⟩:=h
  exact ⟨K,F,Kr,G,ht.heapAt h1 (hn p ((h5 p).2 (.inl rfl))),HKS _ _ _ _ _ _ h2 ht (fun k hk=>hn k ((h5 k).2 (.inr (.inl hk)))),h3.touch ht (fun k hk=>hn k ((h5 k).2 (.inr (.inr hk)))),h5,h6⟩
theorem opened_yes (KIs:KeeperIs) (HOS:OpenSaid KIs) (HKS:KeepsSaid KIs) (x:World) (W:Nat) (psv:Value) (lead:Bool) (gh:Option Nat) (n cap:Nat) (H:Nat→HG) (hw:WI x W psv lead gh n cap H) (hn:n≤99000000)
    (kp me pa:Int) (l:List UInt8) (hsl:l.length≤9900000) (hc:ConfOk kp me pa) :
    Calls Tryz.prog 99 #[.pointer (some ⟨W,0,none⟩),.agg #[.int .i64 kp,.int .i64 me,.int .i64 pa],.string ⟨l.toArray⟩] x fun e y=>∃ p N,e=.returned (.tuple #[.pointer (some ⟨p,0,none⟩),.bool true])∧Player KIs y p N (LK.opened kp me pa (l.take (readD l).2) (readD l).1)∧(∀ k,N k→x.heap.size≤k∧k < y.heap.size)∧Stays x W psv lead gh n 4 H y N:=by
  have HWI:=hid hw
  have HC:=hid hc
  clear hw hc
  go_enter Tryz.func99,Tryz.ntmps99
  go_wp2_with fail
  refine (lent_any l _ (by omega)).mono ?_
  rintro e X1 ⟨rfl,hle,hb1⟩
  rw [World.size_alloc] at hle hb1
  have HLE:=hid hle
  have hs1:x.heap.size+1 < X1.heap.size:=hle.own.lt rfl
  have hs1b:x.heap.size < X1.heap.size:=by omega
  have HX1:Hid (Below x.heap.size x X1):=((Below.refl _ x).alloc (Nat.le_refl _) _).trans (hb1.mono (by omega))
  have HCB:Hid (MBox x.heap.size 63 (.int .i64 kp) (.int .i64 me) (.int .i64 pa) X1):=by
    show _=_
    rw [hb1.block _ (by omega)];exact heap_alloc_new x _
  have b1:(0:Int)≤(l.length:Int):=by omega
  have b2:(l.length:Int)≤(l.length:Int)+8:=by omega
  clear hle hb1
  obtain ⟨c0,c1,c2,fc⟩:=mbox_cells HCB.out
  go_wp2
  refine wp_region_any (by kernel_rfl) ?_
  try (change wpAny _ _ _ _ _ _ _ (World.drew _))
  refine tA 1 ?_
  try simp only [lA,lB,lC,Act.put,lD,lE,lF]
  refine tA 2 ?_
  try simp only [lA,lB,lC,Act.put,lD,lE,lF]
  refine tA 3 ?_
  try simp only [lA,lB,lC,Act.put,lD,lE,lF]
  refine tA 4 ?_
  try simp only [lA,lB,lC,Act.put,lD,lE,lF]
  refine wpAny_ready (rs:=[0]) (by kernel_rfl) (by simp) ?_
  refine AllReady.cons rfl (fun K hK=>?_) AllReady.nil
  go_simp
  refine hK _ _ ?_
  clear hK K
  refine wpAny_ready (rs:=[5]) (by kernel_rfl) (by simp) ?_
  refine AllReady.cons rfl (fun K hK=>?_) AllReady.nil
  go_simp
  refine (HOS kp me pa l (x.heap.size+1) (l.length+8) _ (fun j hj=>⟨_,_,rfl,by rw [Nat.zero_add];exact HLE.out.at_ j hj⟩) (by omega) (by omega)).mono ?_
  rintro e X2 ⟨hb2,h2⟩
  rcases h2 with ⟨hcc,_⟩ | ⟨_,K',F,rfl,hk2,hF2⟩
  · exact absurd HC.out hcc
  · have hb12:Below X1.heap.size X1 X2:=(Below.refl _ X1).drew.trans hb2
    have HLE2:=hid (HLE.out.below hb12)
    have HX2:=hid (HX1.out.trans (hb12.mono HX1.out.size))
    have HCB2:=hid (HCB.out.below hb12)
    have hz2:X1.heap.size≤X2.heap.size:=hb12.size
    have HK2:=hid hk2
    have HF2:Hid (∀ k,F k→X1.heap.size≤k∧k < X2.heap.size):=hF2
    clear hb2 hb12 c0 c1 c2 fc hk2 hF2
    obtain ⟨c0,c1,c2,fc⟩:=mbox_cells HCB2.out
    go_simp
    refine hK _ _ ?_
    clear hK K
    refine tA 6 ?_
    try simp only [lA,lB,lC,Act.put,lD,lE,lF]
    refine tA 7 ?_
    try simp only [lA,lB,lC,Act.put,lD,lE,lF]
    refine tA 8 ?_
    try simp only [lA,lB,lC,Act.put,lD,lE,lF]
    refine wpAny_ready (rs:=[9]) (by kernel_rfl) (by simp) ?_
    refine AllReady.cons rfl (fun K hK=>?_) AllReady.nil
    go_simp
    refine hK _ _ ?_
    clear hK K
    refine wpAny_ready (rs:=[10]) (by kernel_rfl) (by simp) ?_
    refine AllReady.cons rfl (fun K hK=>?_) AllReady.nil
    go_simp
    refine hK _ _ ?_
    clear hK K
    refine wpAny_done (by kernel_rfl) ?_ _
    go_wp2_with fail
    refine (refOpen_yes kp me pa l _ HC.out (by omega)).mono ?_
    rintro e X3 ⟨hb3,h3⟩
    rcases h3 with ⟨hcc,_⟩ | ⟨_,Kr,g,c,rfl,hr3,ho3,hKr,hgK⟩
    · exact absurd HC.out hcc
    have HLE3:=hid (HLE2.out.below hb3)
    have HX3:=hid (HX2.out.trans (hb3.mono HX2.out.size))
    have hz3:X2.heap.size≤X3.heap.size:=hb3.size
    have HK3:=hid (HKS _ _ _ _ _ _ HK2.out (Touch.of_belowAll hb3 (fun _=>False)) (fun _ _ h=>h))
    have HR3:=hid hr3
    have HO3:=hid ho3
    have hKr3:Kr < X3.heap.size:=heap_lt hr3
    have HKR:Hid (X2.heap.size≤Kr∧∀ k,g=some k→X2.heap.size≤k):=⟨hKr,ho3.new⟩
    clear hb3 c0 c1 c2 fc hr3 ho3 hKr hgK
    go_wp2_with fail
    refine (still_any l (x.heap.size+1) (l.length+8) _ (by omega) HLE3.out).mono ?_
    rintro e X5 ⟨rfl,hb5⟩
    have HLE5:=hid (HLE3.out.below hb5)
    have HX5:=hid (HX3.out.trans (hb5.mono HX3.out.size))
    have hz5:X3.heap.size≤X5.heap.size:=hb5.size
    have HK5:=hid (HKS _ _ _ _ _ _ HK3.out (Touch.of_belowAll hb5 (fun _=>False)) (fun _ _ h=>h))
    have HR5:=hid ((hb5.block _ hKr3).trans HR3.out)
    have HO5:=hid (HO3.out.below hb5)
    have HOC:Hid ((readD l).1.ls.length≤c):=HO3.out.cap
    clear hb5
    have WY:=hid (HWI.out.below HX5.out)
    have HWl:=hid (heap_lt HWI.out.wb)
    have HGl:Hid (∀ k,gh=some k→k < x.heap.size):=fun k e=>HWI.out.ow.lt e
    go_wp2_with fail
    refine (keep_hold X5 W psv lead gh n cap H WY.out (some (x.heap.size+1)) none none (l.length+8) (l.length+8) 0 0 0 0 HLE5.out.own (.inl ⟨rfl,rfl,rfl⟩) (.inl ⟨rfl,rfl,rfl⟩) (fun g _ e=>by cases e) (fun g _ e=>by cases e) (fun g e=>by cases e)
      (fun k' e=>HWI.out.free_new (by rcases e with e | e | e;(cases e;omega);cases e;cases e)) (by omega) (by omega) (by omega) (by omega)).mono ?_
    rintro e Y1 ⟨rfl,K1⟩
    obtain ⟨⟨gh1,cap1,H1,W1,gg1,f1⟩,t1⟩:=K1
    have far:∀ k,X1.heap.size≤k→¬ (k=W∨gh=some k∨(some (x.heap.size+1)=some k∨(none:Option Nat)=some k∨(none:Option Nat)=some k)):=fun k hk t=>by
      rcases t with t | t | t | t | t
      · have:=HWl.out;omega
      · have:=HGl.out k t;omega
      · have:=Option.some.inj t;omega
      · cases t
      · cases t
    have HK6:=hid (HKS _ _ _ _ _ _ HK5.out t1 (fun k hk=>far k (HF2.out k hk).1))
    have HR6:=hid (t1.heapAt HR5.out (far Kr (by have:=HKR.out.1;omega)))
    have HO6:Hid (LinesAt Y1 (g.map fun k=>(⟨k,0,none⟩:Addr)) (readD l).1.ls):=HO5.out.at_.touch t1 (fun p e=>by
      cases g with
      | none=>cases e
      | some g0=>cases e;exact far g0 (by have:=HKR.out.2 g0 rfl;omega))
    have hy:X5.heap.size≤Y1.heap.size:=t1.size
    have HGLT:Hid (∀ k,g=some k→k < X5.heap.size):=fun k e=>HO5.out.own.lt e
    have ST:Hid (Stays x W psv lead gh n 4 H (Y1.alloc (.cells #[.pointer (some ⟨K',0,none⟩),.pointer (some ⟨Kr,0,none⟩)] 121)) (fun k=>k=Y1.heap.size∨F k∨k=Kr∨g=some k)):=by
      have fr1:∀ k,X1.heap.size≤k→k < X5.heap.size→Free W gh1 (n+4) H1 k:=fun k h1 h2=>f1 k h2 (HWI.out.free_new (by omega)) (fun t=>by
        rcases t with t | t | t
        · have:=Option.some.inj t;omega
        · cases t
        · cases t)
      refine ⟨⟨gh1,cap1,H1,W1.alloc _,fun k e=>?_,fun k hk hf=>f1 k (by omega) hf (fun t=>?_),fun k e=>?_⟩,?_⟩
      · rcases gg1 k e with e | e
        · exact .inl e
        · exact .inr (by omega)
      · rcases t with t | t | t
        · have:=Option.some.inj t;omega
        · cases t
        · cases t
      · rcases e with e | e | e | e
        · subst e;exact W1.free_new (Nat.le_refl _)
        · have:=HF2.out k e;exact fr1 k this.1 (by omega)
        · subst e;have:=HKR.out.1;exact fr1 _ (by omega) (by omega)
        · have:=HKR.out.2 k e;have:=HGLT.out k e;exact fr1 k (by omega) this
      · refine ((Touch.of_belowAll HX5.out _).trans t1 (fun i hi t=>?_)).alloc _
        rcases t with t | t | t | t | t
        · exact .inl t
        · exact .inr t
        · have:=Option.some.inj t;omega
        · cases t
        · cases t
    clear W1 gg1 f1 t1 far
    go_wp2
    go_ret2
    refine ⟨Y1.heap.size,_,rfl,⟨K',F,Kr,_,heap_alloc_new Y1 _,?_,RIs.opened (g:=g) (c:=c) ?_ ?_ HOC.out,fun k=>Iff.rfl,fun k e1 e2=>?_,fun e=>?_,fun e=>?_⟩,fun k e=>?_,ST.out⟩
    · exact HKS _ _ _ _ _ _ HK6.out ((Touch.refl (fun _=>False) Y1).alloc _) (fun _ _ h=>h)
    · exact alloc_keep1 HR6.out
    · exact HO6.out.alloc _
    · have h1:=HF2.out k e1
      rcases e2 with e2 | e2
      · have:=HKR.out.1;omega
      · have:=HKR.out.2 k e2;omega
    · have h1:=HF2.out _ e;omega
    · rcases e with e | e
      · omega
      · have:=HGLT.out _ e;omega
    · rw [World.size_alloc]
      rcases e with e | e | e | e
      · omega
      · have:=HF2.out k e;omega
      · have:=HKR.out.1;omega
      · have:=HKR.out.2 k e;have:=HGLT.out k e;omega
structure PG where
  p:Nat
  N:Nat→Prop
  s:LK
structure PS (KIs:KeeperIs) (Iv:LK→Prop) (x:World) (W:Nat) (gh:Option Nat) (n:Nat) (H:Nat→HG) (gp:Option Nat) (np cp:Nat) (P:Nat→PG):Prop where
  own:OwnRow x 118 1 gp np cp
  ptr:∀ j,j < np→∃ g,gp=some g∧x.cell? ⟨g,j,none⟩=some (.pointer (some ⟨(P j).p,0,none⟩))
  pl:∀ j,j < np→Player KIs x (P j).p (P j).N (P j).s
  lt:∀ j,j < np→∀ k,(P j).N k→k < x.heap.size
  fr:∀ j,j < np→∀ k,(P j).N k→Free W gh n H k∧gp≠some k
  frg:∀ k,gp=some k→Free W gh n H k
  iv:∀ j,j < np→Iv (P j).s
  ge:∀ j,j < np→∀ k,(P j).N k→W≤k
  ds:∀ i j,i < np→j < np→i≠j→∀ k,(P i).N k→¬ (P j).N k
theorem PS.stays {KIs:KeeperIs} {Iv:LK→Prop} (HKS:KeepsSaid KIs) {x y:World} {W:Nat} {gh gh':Option Nat} {n n':Nat} {H H':Nat→HG} {gp:Option Nat} {np cp:Nat} {P:Nat→PG} (h:PS KIs Iv x W gh n H gp np cp P)
    (ht:Touch (fun k=>k=W∨gh=some k) x y) (hf:∀ k,k < x.heap.size→Free W gh n H k→Free W gh' n' H' k):PS KIs Iv y W gh' n' H' gp np cp P:=by
  have no:∀ k,Free W gh n H k→¬ (k=W∨gh=some k):=fun k f t=>by
    rcases t with t | t
    · exact f.1 t
    · exact f.2.1 t
  refine ⟨h.own.touch ht (fun k e=>no k (h.frg k e)),fun j hj=>?_,fun j hj=>(h.pl j hj).touch HKS ht (fun k hk=>no k (h.fr j hj k hk).1),fun j hj k hk=>Nat.lt_of_lt_of_le (h.lt j hj k hk) ht.size,fun j hj k hk=>⟨hf k (h.lt j hj k hk) (h.fr j hj k hk).1,(h.fr j hj k hk).2⟩,fun k e=>hf k (h.own.lt e) (h.frg k e),h.iv,h.ge,h.ds⟩
  obtain ⟨g,e,c⟩:=h.ptr j hj
  exact ⟨g,e,ht.cell c (no g (h.frg g e))⟩
theorem PS.below {KIs:KeeperIs} {Iv:LK→Prop} (HKS:KeepsSaid KIs) {x y:World} {W:Nat} {gh:Option Nat} {n:Nat} {H:Nat→HG} {gp:Option Nat} {np cp:Nat} {P:Nat→PG} (h:PS KIs Iv x W gh n H gp np cp P) (hb:Below x.heap.size x y):PS KIs Iv y W gh n H gp np cp P :=
  h.stays HKS (Touch.of_belowAll hb _) (fun _ _ f=>f)
theorem WI.setPs {x:World} {W:Nat} {psv:Value} {lead:Bool} {gh:Option Nat} {n cap:Nat} {H:Nat→HG} (h:WI x W psv lead gh n cap H) (v:Value):WI (x.setCell ⟨W,0,none⟩ v) W v lead gh n cap H:=by
  have t:Touch (fun k=>k=W) x (x.setCell ⟨W,0,none⟩ v):=(Touch.refl (fun k=>k=W) x).setCell (p:=⟨W,0,none⟩) (fun _=>rfl) v
  have hwb:=heap_setCell h.wb 0 v
  simp only [List.setIfInBounds_toArray,List.set_cons_zero] at hwb
  refine ⟨hwb,h.ow.touch t (fun k e e2=>h.hw (by rw [← e2];exact e)),h.hw,fun j hj=>?_,fun j hj=>(h.is j hj).foot (fun k i hf=>?_),h.sm,h.ap⟩
  · obtain ⟨g,e,c⟩:=h.ptr j hj
    exact ⟨g,e,t.cell c (fun e2=>h.hw (by rw [← e2];exact e))⟩
  · exact World.cell?_of_block (t.block k ((h.is j hj).foot_lt hf) (fun e=>(h.ap j hj k i hf).1 e))
def pickN (c:Int) (n:Nat):Nat:=((if c < 0 then -(c+1) else c) % (n:Int)).toNat
theorem pickN_lt (c:Int) {n:Nat} (h:0 < n):pickN c n < n:=by
  unfold pickN
  have:=Int.emod_lt_of_pos (if c < 0 then -(c+1) else c) (show (0:Int) < (n:Int) by omega)
  have:=Int.emod_nonneg (if c < 0 then -(c+1) else c) (show (n:Int)≠0 by omega)
  omega
theorem pick_any (c:Int) (n:Nat) (w:World) (h0:0 < n) (hn:n≤100) (hc:-9223372036854775808≤c∧c≤9223372036854775807) :
    Calls Tryz.prog 54 #[.int .i64 c,.int .i64 n] w fun e w'=>e=.returned (.int .i64 (pickN c n))∧w'=w:=by
  obtain ⟨hc1,hc2⟩:=hc
  have hnz:((n:Int) == 0)=false:=beq_eq_false_iff_ne.2 (by omega)
  have hnz2:¬ (n:Int)=0:=by omega
  by_cases hneg:c < 0
  · have w1:IntKind.i64.wrap (c+1)=c+1:=by rw [IntWalk.i64_left,IntWalk.wrap64_in _ (by omega)]
    have w2:IntKind.i64.wrap (-(c+1))=-(c+1):=by rw [IntWalk.i64_left,IntWalk.wrap64_in _ (by omega)]
    go_enter Tryz.func54,Tryz.ntmps54
    go_wp2
    go_ret
    refine ⟨ret_int ?_,rfl⟩
    unfold pickN
    rw [if_pos hneg,← Int.neg_tmod,Int.tmod_eq_emod_of_nonneg (by omega),Int.toNat_of_nonneg (Int.emod_nonneg _ hnz2)]
  · go_enter Tryz.func54,Tryz.ntmps54
    go_wp2
    go_ret
    refine ⟨ret_int ?_,rfl⟩
    unfold pickN
    rw [if_neg (by omega),Int.toNat_of_nonneg (Int.emod_nonneg _ hnz2)]
theorem Tryz.info118:(Tryz.prog.info? 118).map (fun i=>(i.zero,i.size,i.bytes))=some (some (.pointer none),1,8):=by kernel_rfl
theorem WI.touchFree {x y:World} {W:Nat} {psv:Value} {lead:Bool} {gh:Option Nat} {n cap:Nat} {H:Nat→HG} {gp:Option Nat} (h:WI x W psv lead gh n cap H) (ht:Touch (fun k=>gp=some k) x y) (hf:∀ k,gp=some k→Free W gh n H k):WI y W psv lead gh n cap H :=
  h.touch ht (fun e=>(hf W e).1 rfl) (fun k e e2=>(hf k e2).2.1 e) (fun j hj k i hft=>World.cell?_of_block (ht.block k ((h.is j hj).foot_lt hft) (fun e=>(hf k e).2.2 j hj i hft)))
structure LawAt (KIs:KeeperIs) (Iv:LK→Prop) (x:World) (W:Nat) (lead:Bool) (n:Nat) (gh gp:Option Nat) (y:World):Prop where
  ex:∃ gh' cap' H' gp' np cp P,WI y W (sl gp' np cp) lead gh' n cap' H'∧PS KIs Iv y W gh' n H' gp' np cp P∧np≤6∧(∀ k,gh'=some k→gh=some k∨x.heap.size≤k)∧(∀ k,gp'=some k→gp=some k∨x.heap.size≤k)
  tch:Touch (fun k=>W≤k∨gh=some k∨gp=some k) x y
theorem LawAt.same {KIs:KeeperIs} {Iv:LK→Prop} (HKS:KeepsSaid KIs) {x z y:World} {W:Nat} {lead:Bool} {gh gp:Option Nat} {n m:Nat} {H:Nat→HG} {np cp:Nat} {P:Nat→PG} {N:Nat→Prop} (hps:PS KIs Iv z W gh n H gp np cp P) (h6:np≤6) (hb:Below x.heap.size x z) (hs:Stays z W (sl gp np cp) lead gh n m H y N):LawAt KIs Iv x W lead (n+m) gh gp y:=by
  obtain ⟨⟨gh',cap',H',w1,g1,f1,_⟩,t⟩:=hs
  refine ⟨⟨gh',cap',H',gp,np,cp,P,w1,hps.stays HKS t f1,h6,fun k e=>?_,fun k e=>.inl e⟩,(Touch.of_belowAll hb _).trans t (fun i _ e=>?_)⟩
  · rcases g1 k e with e | e
    · exact .inl e
    · exact .inr (Nat.le_trans hb.size e)
  · rcases e with e | e
    · exact .inl (Nat.le_of_eq e.symm)
    · exact .inr (.inl e)
theorem LawAt.still {KIs:KeeperIs} {Iv:LK→Prop} (HKS:KeepsSaid KIs) {x y:World} {W:Nat} {lead:Bool} {gh gp:Option Nat} {n cap np cp:Nat} {H:Nat→HG} {P:Nat→PG} (hw:WI x W (sl gp np cp) lead gh n cap H) (hps:PS KIs Iv x W gh n H gp np cp P) (h6:np≤6) (hb:Below x.heap.size x y):LawAt KIs Iv x W lead n gh gp y :=
  ⟨⟨gh,cap,H,gp,np,cp,P,hw.below hb,hps.below HKS hb,h6,fun _ e=>.inl e,fun _ e=>.inl e⟩,Touch.of_belowAll hb _⟩
theorem made_end {KIs:KeeperIs} {Iv:LK→Prop} (HKS:KeepsSaid KIs) {x Z Y w3:World} {W n np cp cap1 p g2 c2:Nat} {gh gh1 gp:Option Nat} {H1:Nat→HG} {P:Nat→PG} {N:Nat→Prop} {lead:Bool} {sn:LK} {o:Obj}
    (hw:WI Y W (sl gp np cp) lead gh1 (n+4) cap1 H1) (hp:PS KIs Iv Y W gh1 (n+4) H1 gp np cp P) (hpl:Player KIs Y p N sn) (hN:∀ k,N k→Z.heap.size≤k∧k < Y.heap.size) (hFN:∀ k,N k→Free W gh1 (n+4) H1 k)
    (hg:∀ k,gh1=some k→gh=some k∨Z.heap.size≤k) (ht:Touch (fun k=>k=W∨gh=some k) Z Y) (hb:Below x.heap.size x Z) (hWZ:W < Z.heap.size) (hNo:∀ j,j < np→∀ k,(P j).N k→¬ N k) (Q:AppPost (Y.alloc o) w3 118 1 gp np 1 [.pointer (some ⟨p,0,none⟩)] g2 c2) (h6:np+1≤6) (hiv:Iv sn) (hgp:∀ k,gp=some k→k < x.heap.size) :
    LawAt KIs Iv x W lead (n+4) gh gp (w3.setCell ⟨W,0,none⟩ (.slice (some ⟨g2,0,none⟩) (np+1) c2)):=by
  have tY3:Touch (fun k=>gp=some k) Y w3:=((Touch.refl (fun k=>gp=some k) Y).alloc o).trans Q.touch (fun _ _ e=>e)
  have w3w:WI w3 W (sl gp np cp) lead gh1 (n+4) cap1 H1:=hw.touchFree tY3 hp.frg
  have t3:Touch (fun k=>k=W) w3 (w3.setCell ⟨W,0,none⟩ (.slice (some ⟨g2,0,none⟩) (np+1) c2)):=(Touch.refl (fun k=>k=W) w3).setCell (p:=⟨W,0,none⟩) (fun _=>rfl) _
  have hxz:=hb.size
  have hzy:=ht.size
  have hg2:gp=some g2∨Y.heap.size≤g2:=by
    rcases Q.lies with e | e
    · exact .inl e
    · rw [World.size_alloc] at e;exact .inr (by omega)
  have fg2:Free W gh1 (n+4) H1 g2:=by
    rcases hg2 with e | e
    · exact hp.frg g2 e
    · exact hw.free_new e
  have ng2:∀ k,Free W gh1 (n+4) H1 k→gp≠some k→k < Y.heap.size→(some g2:Option Nat)≠some k:=fun k _ h2 h3 e=>by
    have e:=Option.some.inj e
    subst e
    rcases hg2 with e | e
    · exact h2 e
    · omega
  refine ⟨⟨gh1,cap1,H1,some g2,np+1,c2,fun j=>if j=np then ⟨p,N,sn⟩ else P j,w3w.setPs _,?_,h6,fun k e=>?_,fun k e=>?_⟩,?_⟩
  · refine ⟨Q.own.touch t3 (fun k e e2=>?_),fun j hj=>?_,fun j hj=>?_,fun j hj k hk=>?_,fun j hj k hk=>?_,fun k e=>?_,fun j hj=>?_,fun j hj k hk=>?_,fun i j hi hj hij k hk hk2=>?_⟩
    · have:=Option.some.inj e;subst this;exact fg2.1 e2
    · refine ⟨g2,rfl,?_⟩
      refine (World.cell?_of_block (t3.block g2 ?_ (fun e=>fg2.1 e))).trans ?_
      · rcases Q.own with ⟨h,_⟩ | ⟨g',cur,h,hh,_⟩
        · cases h
        · cases h;exact heap_lt hh
      · by_cases e:j=np
        · subst e
          rw [if_pos rfl]
          have:=Q.new 0 (by omega)
          simpa using this
        · rw [if_neg e]
          obtain ⟨g,e1,c⟩:=hp.ptr j (by omega)
          rw [Q.old j (by omega) g e1,World.cell?_alloc_past _ _ _ (hp.own.lt e1)];exact c
    · by_cases e:j=np
      · subst e
        simp only [if_true]
        exact (hpl.touch HKS tY3 (fun k hk e=>by have:=hgp k e;have:=(hN k hk).1;omega)).touch HKS t3 (fun k hk e=>(hFN k hk).1 e)
      · simp only [if_neg e]
        have hj':j < np:=by omega
        exact ((hp.pl j hj').touch HKS tY3 (fun k hk e=>(hp.fr j hj' k hk).2 e)).touch HKS t3 (fun k hk e=>(hp.fr j hj' k hk).1.1 e)
    · have h3:Y.heap.size≤(w3.setCell ⟨W,0,none⟩ (.slice (some ⟨g2,0,none⟩) (np+1) c2)).heap.size:=Nat.le_trans tY3.size t3.size
      by_cases e:j=np
      · subst e;simp only [if_true] at hk;have:=(hN k hk).2;omega
      · simp only [if_neg e] at hk;have:=hp.lt j (by omega) k hk;omega
    · by_cases e:j=np
      · subst e
        simp only [if_true] at hk
        have h1:=hN k hk
        exact ⟨hFN k hk,ng2 k (hFN k hk) (fun e=>by have:=hgp k e;omega) h1.2⟩
      · simp only [if_neg e] at hk
        have hj':j < np:=by omega
        exact ⟨(hp.fr j hj' k hk).1,ng2 k (hp.fr j hj' k hk).1 (hp.fr j hj' k hk).2 (hp.lt j hj' k hk)⟩
    · have:=Option.some.inj e;subst this;exact fg2
    · by_cases e:j=np
      · subst e;simp only [if_true];exact hiv
      · simp only [if_neg e];exact hp.iv j (by omega)
    · by_cases e:j=np
      · simp only [if_pos e] at hk;have:=(hN k hk).1;omega
      · simp only [if_neg e] at hk;exact hp.ge j (by omega) k hk
    · by_cases ei:i=np
      · by_cases ej:j=np
        · omega
        · simp only [if_pos ei] at hk;simp only [if_neg ej] at hk2
          exact hNo j (by omega) k hk2 hk
      · by_cases ej:j=np
        · simp only [if_neg ei] at hk;simp only [if_pos ej] at hk2
          exact hNo i (by omega) k hk hk2
        · simp only [if_neg ei] at hk;simp only [if_neg ej] at hk2
          exact hp.ds i j (by omega) (by omega) hij k hk hk2
  · rcases hg k e with e | e
    · exact .inl e
    · exact .inr (by omega)
  · have:=Option.some.inj e;subst this
    rcases hg2 with e | e
    · exact .inl e
    · exact .inr (by omega)
  · refine (((Touch.of_belowAll hb _).trans ht (fun i _ e=>?_)).trans tY3 (fun i _ e=>.inr (.inr e))).trans t3 (fun i _ e=>.inl (Nat.le_of_eq e.symm))
    rcases e with e | e
    · exact .inl (Nat.le_of_eq e.symm)
    · exact .inr (.inl e)
theorem madeOpen_on (KIs:KeeperIs) (Iv:LK→Prop) (lead:Bool) (HOS:OpenSaid KIs) (HKS:KeepsSaid KIs) (HIV:∀ kp me pa l,ConfOk kp me pa→l.length≤9000000→(lead=true→(readD l).1.view=0)→Iv (LK.opened kp me pa (l.take (readD l).2) (readD l).1)) (x:World) (W:Nat) (gh:Option Nat) (n cap:Nat) (H:Nat→HG) (gp:Option Nat) (np cp:Nat) (P:Nat→PG) (hw:WI x W (sl gp np cp) lead gh n cap H) (hps:PS KIs Iv x W gh n H gp np cp P) (h6:np≤6) (hn:n≤95000000)
    (o:OpG) (hk:o.kind=3) (hsl:o.s.length≤9000000) (hlv:lead=false∨(lead=true∧(readD o.s).1.view=0)) :
    Calls Tryz.prog 53 #[.pointer (some ⟨W,0,none⟩),.agg o.cells] x fun e y=>e=.returned (.bool true)∧LawAt KIs Iv x W lead (n+4) gh gp y:=by
  have HWI:=hid hw
  have HPS:=hid hps
  clear hw hps
  unfold OpG.cells sla
  obtain ⟨okind,on,l,f,fa,fc,k1,k2,k3,oa⟩:=o
  dsimp only at *
  subst hk
  have HIV:=hid HIV
  have hv0:Hid (lead=true→(readD l).1.view=0):=fun e=>by
    rcases hlv with h | h
    · rw [h] at e;cases e
    · exact h.2
  rcases hlv with rfl | ⟨rfl,hv⟩
  all_goals
    try have hvz:(((readD l).1.view:Int) != 0)=false:=by simp [hv]
    try clear hv
    have hWl:W < x.heap.size:=heap_lt HWI.out.wb
    go_enter Tryz.func53,Tryz.ntmps53
    go_wp2_with fail
    refine (read_any l _ (by omega)).mono ?_
    rintro e X1 ⟨gm,cm,rfl,hol,hb1⟩
    rw [World.size_alloc] at hb1
    have HX1:Hid (Below x.heap.size x X1):=((Below.refl _ x).alloc (Nat.le_refl _) _).trans (hb1.mono (by omega))
    have HMV:Hid (∀ m:Mm,∀ q,m.val (gm.map fun x=>(⟨x,0,none⟩:Addr)) q=.agg #[.int .i64 m.view,.int .i64 m.last,.slice (gm.map fun x=>⟨x,0,none⟩) m.ls.length q]):=fun m q=>rfl
    rw [HMV.out]
    have hob:=(hb1.block x.heap.size (by omega)).trans (heap_alloc_new x _)
    have s2:=cell_of_heap hob 2
    have s13:=cell_of_heap hob 13
    have s14:=cell_of_heap hob 14
    have s15:=cell_of_heap hob 15
    simp only [List.getElem?_toArray,List.getElem?_cons_zero,List.getElem?_cons_succ] at s2 s13 s14 s15
    have WX1:=hid (HWI.out.below HX1.out)
    have w0:=cell_of_heap WX1.out.wb 0
    have w2:=cell_of_heap WX1.out.wb 2
    simp only [List.getElem?_toArray,List.getElem?_cons_zero,List.getElem?_cons_succ] at w0 w2
    have hs1:x.heap.size < X1.heap.size:=heap_lt hob
    have hW1:W < X1.heap.size:=by omega
    clear hol hb1 hob
    unfold sl at w0
    obtain ⟨Z,hZ⟩:∃ Z:World,Z=X1.alloc (.cells #[.int .i64 (readD l).1.view,.int .i64 (readD l).1.last,.slice (gm.map fun x=>⟨x,0,none⟩) (readD l).1.ls.length cm] 176):=⟨_,rfl⟩
    have BZ:Hid (Below x.heap.size x Z):=by show Below _ _ _;rw [hZ];exact HX1.out.alloc HX1.out.size _
    have WZ:=hid (HWI.out.below BZ.out)
    have PZ:=hid (HPS.out.below HKS BZ.out)
    have HZ:=hid hZ
    clear hZ
    go_wp2_with fail
    rw [← HZ.out]
    by_cases hc:ConfOk k1 k2 k3
    · have HI:=hid (HIV.out k1 k2 k3 l hc hsl (fun e=>hv0.out e))
      refine (opened_yes KIs HOS HKS Z W (sl gp np cp) _ gh n cap H WZ.out (by omega) k1 k2 k3 l (by omega) hc).mono ?_
      rintro e Y ⟨p,N,rfl,hpl,hN,hst⟩
      have HL:=hid (LawAt.same HKS PZ.out h6 BZ.out hst)
      obtain ⟨⟨gh1,cap1,H1,W1,g1,f1,fN⟩,t1⟩:=hst
      have HW1:=hid W1
      have HP1:=hid (PZ.out.stays HKS t1 f1)
      have HPL:=hid hpl
      have HN:=hid hN
      have HFN:=hid fN
      have HG1:=hid g1
      have HT1:=hid t1
      have v0:=cell_of_heap W1.wb 0
      have fv:∀ j,Y.frozen? ⟨W,j,none⟩=false:=fun j=>frozen_of_heap W1.wb j
      simp only [List.getElem?_toArray,List.getElem?_cons_zero] at v0
      unfold sl at v0
      have hWY:W < Y.heap.size:=heap_lt W1.wb
      have hzy:Z.heap.size≤Y.heap.size:=t1.size
      have hxz:x.heap.size≤Z.heap.size:=BZ.out.size
      clear W1 g1 f1 fN t1 hpl hN s2 s13 s14 s15 w0 w2
      by_cases hn6:np=6
      · have l6:¬ ((np:Int) < 6):=by omega
        go_wp2
        go_ret
        exact ⟨rfl,HL.out⟩
      · have l6:(np:Int) < 6:=by omega
        obtain ⟨ip,hip,hip0,hip1,hip2⟩:=info_parts Tryz.info118
        have own1:Hid (OwnRow (Y.alloc (.cells #[.pointer (some ⟨p,0,none⟩)] 118)) 118 1 gp np cp):=HP1.out.own.alloc _
        go_wp2_with (at_builtin;refine wpList_app _ rfl (.tmp 57) (.tmp 59) 78 rfl 118 ip (.pointer none) 1 8 Tryz.underlying78 hip hip0 hip1 hip2 rfl gp np cp (by rfl) own1.out ⟨Y.heap.size,0,none⟩ 1 1 [.pointer (some ⟨p,0,none⟩)] rfl rfl ?c1 ?c2 (by omega) (by omega) (by omega) ?_)
        case c1=>exact World.news_of_block (heap_alloc_new Y _)
        case c2=>intro u hu;simp at hu;subst hu;rfl
        intro g2 c2 w3 Q
        have LA:Hid (LawAt KIs Iv x W _ (n+4) gh gp (w3.setCell ⟨W,0,none⟩ (.slice (some ⟨g2,0,none⟩) (np+1) c2))):=made_end HKS HW1.out HP1.out HPL.out HN.out HFN.out HG1.out HT1.out BZ.out (heap_lt WZ.out.wb) (fun j hj k hk hk2=>by have:=HPS.out.lt j hj k hk;have:=(HN.out k hk2).1;omega) Q (by omega) HI.out (fun k e=>HPS.out.own.lt e)
        have hq0:w3.cell? ⟨W,0,none⟩=some (.slice (gp.map fun g=>⟨g,0,none⟩) np cp):=by
          rw [Q.keep W 0 (by simp;omega) (fun e=>(HP1.out.frg W e.1).1 rfl),World.cell?_alloc_past _ _ _ hWY];exact v0
        have hq1:∀ j,w3.frozen? ⟨W,j,none⟩=false:=fun j=>by
          have h1:=Q.touch.heapAt (o:=.cells #[sl gp np cp,sl gh1 (n+4) cap1,.bool _] 81 (0,0)) (alloc_keep1 HW1.out.wb) (fun e=>(HP1.out.frg W e).1 rfl)
          exact frozen_of_heap h1 j
        clear Q v0 fv
        go_wp2
        go_ret
        exact ⟨rfl,LA.out⟩
    · refine (opened_no KIs HOS Z W (sl gp np cp) _ gh n cap H WZ.out (by omega) k1 k2 k3 l (by omega) hc).mono ?_
      rintro e Y ⟨rfl,hst⟩
      have HL:=hid (LawAt.same HKS PZ.out h6 BZ.out hst)
      clear hst
      go_wp2
      go_ret
      exact ⟨rfl,HL.out⟩
theorem madeOpen_past (KIs:KeeperIs) (Iv:LK→Prop) (HKS:KeepsSaid KIs) (x:World) (W:Nat) (gh:Option Nat) (n cap:Nat) (H:Nat→HG) (gp:Option Nat) (np cp:Nat) (P:Nat→PG) (hw:WI x W (sl gp np cp) true gh n cap H) (hps:PS KIs Iv x W gh n H gp np cp P) (h6:np≤6)
    (o:OpG) (hk:o.kind=3) (hsl:o.s.length≤9000000) (hv:(readD o.s).1.view≠0) :
    Calls Tryz.prog 53 #[.pointer (some ⟨W,0,none⟩),.agg o.cells] x fun e y=>e=.returned (.bool true)∧LawAt KIs Iv x W true n gh gp y:=by
  have HWI:=hid hw
  have HPS:=hid hps
  clear hw hps
  unfold OpG.cells sla
  obtain ⟨okind,on,l,f,fa,fc,k1,k2,k3,oa⟩:=o
  dsimp only at *
  subst hk
  have hvz:(((readD l).1.view:Int) != 0)=true:=by simp [hv]
  have hWl:W < x.heap.size:=heap_lt HWI.out.wb
  go_enter Tryz.func53,Tryz.ntmps53
  go_wp2_with fail
  refine (read_any l _ (by omega)).mono ?_
  rintro e X1 ⟨gm,cm,rfl,hol,hb1⟩
  rw [World.size_alloc] at hb1
  have HX1:Hid (Below x.heap.size x X1):=((Below.refl _ x).alloc (Nat.le_refl _) _).trans (hb1.mono (by omega))
  have HMV:Hid (∀ m:Mm,∀ q,m.val (gm.map fun x=>(⟨x,0,none⟩:Addr)) q=.agg #[.int .i64 m.view,.int .i64 m.last,.slice (gm.map fun x=>⟨x,0,none⟩) m.ls.length q]):=fun m q=>rfl
  rw [HMV.out]
  have WX1:=hid (HWI.out.below HX1.out)
  have w2:=cell_of_heap WX1.out.wb 2
  simp only [List.getElem?_toArray,List.getElem?_cons_zero,List.getElem?_cons_succ] at w2
  have hs1:x.heap.size≤X1.heap.size:=HX1.out.size
  have hW1:W < X1.heap.size:=by omega
  clear hol hb1
  go_wp2
  go_ret
  exact ⟨rfl,LawAt.still HKS HWI.out HPS.out h6 (HX1.out.alloc HX1.out.size _)⟩
def DiskSaid (KIs:KeeperIs):Prop:=∀ (w:World) (K:Nat) (F:Nat→Prop) (s:LK) (keep:Int),KIs w K F s→s.ok →
  Calls Tryz.prog 28 #[.pointer (some ⟨K,0,none⟩),.int .i64 keep] w fun e w'=>∃ g c,e=.returned (sl g (s.image keep).length c)∧OwnBytes w w' g c (s.image keep)∧Below w.heap.size w w'
theorem madeAgain_none (KIs:KeeperIs) (Iv:LK→Prop) (lead:Bool) (HKS:KeepsSaid KIs) (x:World) (W:Nat) (gh:Option Nat) (n cap:Nat) (H:Nat→HG) (gp:Option Nat) (cp:Nat) (P:Nat→PG) (hw:WI x W (sl gp 0 cp) lead gh n cap H) (hps:PS KIs Iv x W gh n H gp 0 cp P)
    (o:OpG) (hk:o.kind=7) :
    Calls Tryz.prog 53 #[.pointer (some ⟨W,0,none⟩),.agg o.cells] x fun e y=>e=.returned (.bool true)∧LawAt KIs Iv x W lead n gh gp y:=by
  have HWI:=hid hw
  have HPS:=hid hps
  have w0:=cell_of_heap hw.wb 0
  simp only [List.getElem?_toArray,List.getElem?_cons_zero] at w0
  unfold sl at w0
  have hWl:W < x.heap.size:=heap_lt hw.wb
  clear hw hps
  unfold OpG.cells sla
  obtain ⟨okind,on,l,f,fa,fc,k1,k2,k3,oa⟩:=o
  dsimp only at *
  subst hk
  go_enter Tryz.func53,Tryz.ntmps53
  go_wp2
  go_ret
  exact ⟨rfl,LawAt.still HKS HWI.out HPS.out (by omega) ((Below.refl _ _).alloc (Nat.le_refl _) _)⟩
end
end Go.Proofs.YtolififimldmlaaGreat
