import Derived.Test.YtolififimldmlaaGreatPart10
import Derived.Test.YtolififimldmlaaGreatPart08
set_option linter.unusedVariables false
set_option linter.unusedSimpArgs false
set_option maxRecDepth 100000
set_option maxHeartbeats 16000000
namespace Go.Proofs.YtolififimldmlaaGreat
section
open Go.RowKit
attribute [local go_sem ↓] Go.wp_at_zero Go.wp_at_succ
theorem OwnLines.app' {w X w2:World} {g:Option Nat} {c k g' c':Nat} {ls:List Ln} {l:Ln} (h:OwnLines w X g c ls) (hb:Below w.heap.size w X) (hk:ls.length=k)
    (P:AppPost X w2 27 3 g k 1 [.int .i64 l.c,.int .i64 l.t,.string ⟨l.s.toArray⟩] g' c'):OwnLines w w2 (some g') c' (ls++[l])∧Below w.heap.size w w2:=by
  have s0:=hb.size
  refine ⟨⟨h.at_.app hk P,?_,fun j e=>?_⟩,hb.trans (P.touch.below s0 (fun j _ e=>h.new j e))⟩
  · have:=P.own
    rw [List.length_append,hk];exact this
  · have e:=Option.some.inj e
    subst e
    rcases P.lies with q | q
    · exact h.new _ q
    · omega
def TookLines (w0 w:World) (b:List UInt8) (e:Ending) (w':World):Prop :=
  ∃ g c a' cap',e=.returned (.tuple #[sl g (tsLines b).length c,sla a' (tsRest b).length cap',.bool (tsOk b)])∧OwnLines w w' g c (tsLines b)∧BytesIn w0 a' (tsRest b)∧(tsRest b).length≤cap'∧Below w.heap.size w w'
theorem OwnLines.none_ (w w':World):OwnLines w w' none 0 []:=⟨fun j hj=>absurd hj (by simp),.inl ⟨rfl,rfl,rfl⟩,fun k e=>by cases e⟩
theorem tooks_no {w0 w w':World} {b:List UInt8} (h:takeLines b=none) (hb:Below w.heap.size w w') :
    TookLines w0 w b (.returned (.tuple #[.slice none 0 0,.slice none 0 0,.bool false])) w':=by
  obtain ⟨e1,e2,e3⟩:=ts_no b h
  refine ⟨none,0,none,0,?_,?_,?_,?_,hb⟩
  · rw [e1,e2,e3];rfl
  · rw [e1];exact OwnLines.none_ _ _
  · rw [e2];exact BytesIn.nil _ _
  · rw [e2];exact Nat.le_refl _
theorem takeLine_at (a:Option Addr) (n cap:Nat) (b:List UInt8) (w0 w:World) (hb:BytesIn w0 a b) (hw:Below w0.heap.size w0 w) (e:b.length=n) (hn:b.length≤100000000) (hcap:b.length≤cap) :
    Calls Tryz.prog 118 #[.slice a n cap] w (TookLine w0 w b):=by subst e;exact takeLine_go a cap b w0 w hb hw hn hcap
theorem take_go (a:Option Addr) (cap:Nat) (b:List UInt8) (w0 w:World) (hb:BytesIn w0 a b) (hw:Below w0.heap.size w0 w) (hn:b.length≤100000000) (hcap:b.length≤cap) :
    Calls Tryz.prog 119 #[sla a b.length cap] w (TookLines w0 w b):=by
  have HB0:=hid hb
  have HW:=hid hw
  have HB:=hid (hb.below hw)
  clear hb hw
  unfold sla
  rcases Nat.eq_zero_or_pos b.length with h0 | h0
  · have HN:Hid (takeLines b=none):=by show _=_;unfold takeLines;rw [if_pos h0]
    have hz:((b.length:Int) == 0)=true:=beq_iff_eq.2 (by omega)
    go_enter Tryz.func119,Tryz.ntmps119
    go_wp2
    go_ret3
    exact tooks_no HN.out (Below.refl _ _)
  · obtain ⟨g0,o,rfl,hx0⟩:=HB.out 0 h0
    clear hx0
    have hg0:g0 < w.heap.size:=World.block_lt_of_cell? _ _ (HB.out.cell 0 h0)
    have c0:=HB.out.cell 0 h0
    rw [Nat.add_zero] at c0
    have HTL:Hid (takeLines b=takeN (b.drop 1) (b.getD 0 0).toNat):=by show takeLines b=_;unfold takeLines;rw [if_neg (by omega)]
    generalize b.getD 0 0=z at c0 HTL
    have hz:z.toNat < 256:=z.toNat_lt
    have wz:IntKind.i64.wrap (z.toNat:Int)=(z.toNat:Int):=wrap_byte z
    have hz2:((b.length:Int) == 0)=false:=beq_eq_false_iff_ne.2 (by omega)
    have hb1:(1:Int)≤(b.length:Int):=by omega
    have hb2:(1:Int)≤(cap:Int):=by omega
    have hb3:(b.length:Int)≤(cap:Int):=by omega
    obtain ⟨il,hil,hil0,hil1,hil2⟩:=info_parts Tryz.info27
    have hc1:cap=1∨¬ cap=1:=by omega
    have HR:Hid (∀ q,q=(if cap=1 then o else o+1)→BytesIn w0 (some ⟨g0,q,none⟩) (b.drop 1)):=fun q hq=>by
      subst hq
      split
      · rw [List.drop_eq_nil_of_le (by omega)];exact BytesIn.nil _ _
      · exact HB0.out.drop 1
    go_enter Tryz.func119,Tryz.ntmps119
    rcases hc1 with hc1 | hc1
    · have hbl:b.length=1:=by omega
      subst hc1
      go_wp2
      go_loopw [2,3,15] (fun out s i wr=>∃ (k:Nat) (ls:List Ln) (r:List UInt8) (g:Option Nat) (c:Nat) (ar:Option Addr) (nr cr:Nat),k≤z.toNat∧i=.int .i64 k∧s=.slice ar nr cr∧out=.slice (g.map fun x=>⟨x,0,none⟩) k c ∧
          Hid (takeN (b.drop 1) k=some (ls,r)∧ls.length=k∧r.length=nr∧nr≤100000000∧nr≤cr∧BytesIn w0 ar r∧OwnLines w wr g c ls∧Below w.heap.size w wr)) (fun _ _ i _=>z.toNat - (intOf i).toNat)
      case atStart=>exact ⟨0,[],b.drop 1,none,0,_,_,_,Nat.zero_le _,rfl,rfl,rfl,rfl,rfl,by rw [List.length_drop,hbl],by omega,by omega,HR.out _ (by simp),OwnLines.none_ _ _,Below.refl _ _⟩
      case round =>
        obtain ⟨k,ls,r,g,c,ar,nr,cr,hk,rfl,rfl,rfl,HI⟩:=hrel
        by_cases hlt:k < z.toNat
        · go_wp2_with fail
          refine (takeLine_at ar nr cr r w0 _ HI.out.2.2.2.2.2.1 ((HW.out.trans (HI.out.2.2.2.2.2.2.2.mono HW.out.size)).alloc (by have:=HW.out.size;have:=HI.out.2.2.2.2.2.2.2.size;omega) _) HI.out.2.2.1 (by have:=HI.out;omega) (by have:=HI.out;omega)).mono ?_
          rintro e w1 ⟨a2,cap2,rfl,hbi,hcp,hb1⟩
          have HB1:=hid hb1
          have HBI:=hid hbi
          have HCP:=hid hcp
          have hs1:wr.heap.size < w1.heap.size:=by have:=hb1.size;simp at this;omega
          have hw1:w1.heap[wr.heap.size]?=some (.cells #[.int .i64 0,.int .i64 0,.string ⟨#[]⟩] 27 (0,0)):=by
            rw [hb1.block _ (by simp)];exact heap_alloc_new wr _
          clear hbi hcp hb1
          have q0:w1.cell? ⟨wr.heap.size,0,none⟩=some (.int .i64 0):=cell_of_heap hw1 0
          have q1:w1.cell? ⟨wr.heap.size,1,none⟩=some (.int .i64 0):=cell_of_heap hw1 1
          have q2:w1.cell? ⟨wr.heap.size,2,none⟩=some (.string ⟨#[]⟩):=cell_of_heap hw1 2
          have hf:∀ j,w1.frozen? ⟨wr.heap.size,j,none⟩=false:=fun j=>frozen_of_heap hw1 j
          have HW1:=hid hw1
          clear hw1
          cases hok:tlOk r
          · have HF:Hid (takeLines b=none):=by
              show _=_
              rw [HTL.out]
              exact takeN_none _ (show k+1≤z.toNat by omega) (by rw [takeN_step _ _ _ _ HI.out.1,takeLine_none hok];rfl)
            unfold sla
            go_wp2
            go_ret3
            refine tooks_no HF.out ?_
            exact (((HI.out.2.2.2.2.2.2.2.trans (((Below.refl _ wr).alloc (Nat.le_refl _) _).mono HI.out.2.2.2.2.2.2.2.size |>.trans (HB1.out.mono (by have:=HI.out.2.2.2.2.2.2.2.size;simp;omega)))).setCell (p:=⟨wr.heap.size,0,none⟩) (by exact HI.out.2.2.2.2.2.2.2.size) _).setCell (p:=⟨wr.heap.size,1,none⟩) (by exact HI.out.2.2.2.2.2.2.2.size) _).setCell (p:=⟨wr.heap.size,2,none⟩) (by exact HI.out.2.2.2.2.2.2.2.size) _
          · have HS:Hid (takeN (b.drop 1) (k+1)=some (ls++[tlLine r],tlRest r)):=by
              show _=_
              rw [takeN_step _ _ _ _ HI.out.1,takeLine_some hok];rfl
            have hrl:=tlRest_len r
            have HRL:=hid hrl
            clear hrl
            generalize tlRest r=r2 at HS HRL HBI HCP ⊢
            generalize tlLine r=x at HS ⊢
            clear hok
            unfold sla
            obtain ⟨X,hX⟩:∃ X:World,X=((((w1.setCell ⟨wr.heap.size,0,none⟩ (.int .i64 x.c)).setCell ⟨wr.heap.size,1,none⟩ (.int .i64 x.t)).setCell ⟨wr.heap.size,2,none⟩ (.string ⟨x.s.toArray⟩)).alloc (.cells #[.int .i64 x.c,.int .i64 x.t,.string ⟨x.s.toArray⟩] 27)):=⟨_,rfl⟩
            have bX:Hid (Below wr.heap.size wr X):=by
              show Below _ _ _
              rw [hX]
              exact ((((((Below.refl _ wr).alloc (Nat.le_refl _) _).trans (HB1.out.mono (by simp))).setCell (p:=⟨wr.heap.size,0,none⟩) (Nat.le_refl _) _).setCell (p:=⟨wr.heap.size,1,none⟩) (Nat.le_refl _) _).setCell (p:=⟨wr.heap.size,2,none⟩) (Nat.le_refl _) _).alloc (by rw [size_setCell,size_setCell,size_setCell];omega) _
            have OX:=hid (HI.out.2.2.2.2.2.2.1.below bX.out)
            have bwX:=hid (HI.out.2.2.2.2.2.2.2.trans (bX.out.mono HI.out.2.2.2.2.2.2.2.size))
            have ownX:Hid (OwnRow X 27 3 g k c):=by
              have h:=OX.out.own
              rw [HI.out.2.1] at h
              exact h
            have hXn:Hid (X.heap[w1.heap.size]?=some (.cells #[.int .i64 x.c,.int .i64 x.t,.string ⟨x.s.toArray⟩] 27 (0,0))):=by
              show _=_
              have:=heap_alloc_new (((w1.setCell ⟨wr.heap.size,0,none⟩ (.int .i64 x.c)).setCell ⟨wr.heap.size,1,none⟩ (.int .i64 x.t)).setCell ⟨wr.heap.size,2,none⟩ (.string ⟨x.s.toArray⟩)) (.cells #[.int .i64 x.c,.int .i64 x.t,.string ⟨x.s.toArray⟩] 27)
              rw [size_setCell,size_setCell,size_setCell] at this
              rw [hX];exact this
            have HX:=hid hX
            clear hX
            go_wp2_with (at_builtin;rw [← HX.out];refine wpList_app _ rfl (.tmp 25) (.tmp 27) 28 rfl 27 il (.agg #[.int .i64 0,.int .i64 0,.string ⟨#[]⟩]) 3 32 Tryz.underlying28 hil hil0 hil1 hil2 rfl g k c (by rfl) ownX.out ⟨w1.heap.size,0,none⟩ 1 1 [.int .i64 x.c,.int .i64 x.t,.string ⟨x.s.toArray⟩] rfl rfl ?c1 ?c2 (by omega) (by omega) (by omega) ?_)
            case c1=>exact World.news_of_block hXn.out
            case c2=>intro u hu;simp at hu;rcases hu with rfl | rfl | rfl <;> rfl
            intro g' c' w2 P
            have HP:=hid (OwnLines.app' OX.out bwX.out HI.out.2.1 P)
            clear P
            go_wp2
            go_roundw
            case rel=>exact ⟨k+1,ls++[x],r2,some g',c',a2,r2.length,cap2,by omega,by go_num,rfl,rfl,HS.out,by rw [List.length_append,HI.out.2.1];rfl,rfl,by have:=HI.out;have:=HRL.out;omega,HCP.out,HBI.out,HP.out.1,HP.out.2⟩
            case measure=>simp [intOf];omega
        · go_wp2
          go_ret3
          have ek:k=z.toNat:=by omega
          subst ek
          obtain ⟨h1,h2,h3,h4,h5,h6,h7,h8⟩:=HI.out
          obtain ⟨e1,e2,e3⟩:=ts_yes b (HTL.out.trans h1)
          refine ⟨g,c,ar,cr,?_,?_,?_,?_,h8⟩
          · rw [e1,e2,e3,h2,h3];rfl
          · rw [e1];exact h7
          · rw [e2];exact h6
          · rw [e2,h3];exact h5
    · go_wp2
      go_loopw [2,3,15] (fun out s i wr=>∃ (k:Nat) (ls:List Ln) (r:List UInt8) (g:Option Nat) (c:Nat) (ar:Option Addr) (nr cr:Nat),k≤z.toNat∧i=.int .i64 k∧s=.slice ar nr cr∧out=.slice (g.map fun x=>⟨x,0,none⟩) k c ∧
          Hid (takeN (b.drop 1) k=some (ls,r)∧ls.length=k∧r.length=nr∧nr≤100000000∧nr≤cr∧BytesIn w0 ar r∧OwnLines w wr g c ls∧Below w.heap.size w wr)) (fun _ _ i _=>z.toNat - (intOf i).toNat)
      case atStart=>exact ⟨0,[],b.drop 1,none,0,_,_,_,Nat.zero_le _,rfl,rfl,rfl,rfl,rfl,List.length_drop,by omega,by omega,HR.out _ (by rw [if_neg hc1]),OwnLines.none_ _ _,Below.refl _ _⟩
      case round =>
        obtain ⟨k,ls,r,g,c,ar,nr,cr,hk,rfl,rfl,rfl,HI⟩:=hrel
        by_cases hlt:k < z.toNat
        · go_wp2_with fail
          refine (takeLine_at ar nr cr r w0 _ HI.out.2.2.2.2.2.1 ((HW.out.trans (HI.out.2.2.2.2.2.2.2.mono HW.out.size)).alloc (by have:=HW.out.size;have:=HI.out.2.2.2.2.2.2.2.size;omega) _) HI.out.2.2.1 (by have:=HI.out;omega) (by have:=HI.out;omega)).mono ?_
          rintro e w1 ⟨a2,cap2,rfl,hbi,hcp,hb1⟩
          have HB1:=hid hb1
          have HBI:=hid hbi
          have HCP:=hid hcp
          have hs1:wr.heap.size < w1.heap.size:=by have:=hb1.size;simp at this;omega
          have hw1:w1.heap[wr.heap.size]?=some (.cells #[.int .i64 0,.int .i64 0,.string ⟨#[]⟩] 27 (0,0)):=by
            rw [hb1.block _ (by simp)];exact heap_alloc_new wr _
          clear hbi hcp hb1
          have q0:w1.cell? ⟨wr.heap.size,0,none⟩=some (.int .i64 0):=cell_of_heap hw1 0
          have q1:w1.cell? ⟨wr.heap.size,1,none⟩=some (.int .i64 0):=cell_of_heap hw1 1
          have q2:w1.cell? ⟨wr.heap.size,2,none⟩=some (.string ⟨#[]⟩):=cell_of_heap hw1 2
          have hf:∀ j,w1.frozen? ⟨wr.heap.size,j,none⟩=false:=fun j=>frozen_of_heap hw1 j
          have HW1:=hid hw1
          clear hw1
          cases hok:tlOk r
          · have HF:Hid (takeLines b=none):=by
              show _=_
              rw [HTL.out]
              exact takeN_none _ (show k+1≤z.toNat by omega) (by rw [takeN_step _ _ _ _ HI.out.1,takeLine_none hok];rfl)
            unfold sla
            go_wp2
            go_ret3
            refine tooks_no HF.out ?_
            exact (((HI.out.2.2.2.2.2.2.2.trans (((Below.refl _ wr).alloc (Nat.le_refl _) _).mono HI.out.2.2.2.2.2.2.2.size |>.trans (HB1.out.mono (by have:=HI.out.2.2.2.2.2.2.2.size;simp;omega)))).setCell (p:=⟨wr.heap.size,0,none⟩) (by exact HI.out.2.2.2.2.2.2.2.size) _).setCell (p:=⟨wr.heap.size,1,none⟩) (by exact HI.out.2.2.2.2.2.2.2.size) _).setCell (p:=⟨wr.heap.size,2,none⟩) (by exact HI.out.2.2.2.2.2.2.2.size) _
          · have HS:Hid (takeN (b.drop 1) (k+1)=some (ls++[tlLine r],tlRest r)):=by
              show _=_
              rw [takeN_step _ _ _ _ HI.out.1,takeLine_some hok];rfl
            have hrl:=tlRest_len r
            have HRL:=hid hrl
            clear hrl
            generalize tlRest r=r2 at HS HRL HBI HCP ⊢
            generalize tlLine r=x at HS ⊢
            clear hok
            unfold sla
            obtain ⟨X,hX⟩:∃ X:World,X=((((w1.setCell ⟨wr.heap.size,0,none⟩ (.int .i64 x.c)).setCell ⟨wr.heap.size,1,none⟩ (.int .i64 x.t)).setCell ⟨wr.heap.size,2,none⟩ (.string ⟨x.s.toArray⟩)).alloc (.cells #[.int .i64 x.c,.int .i64 x.t,.string ⟨x.s.toArray⟩] 27)):=⟨_,rfl⟩
            have bX:Hid (Below wr.heap.size wr X):=by
              show Below _ _ _
              rw [hX]
              exact ((((((Below.refl _ wr).alloc (Nat.le_refl _) _).trans (HB1.out.mono (by simp))).setCell (p:=⟨wr.heap.size,0,none⟩) (Nat.le_refl _) _).setCell (p:=⟨wr.heap.size,1,none⟩) (Nat.le_refl _) _).setCell (p:=⟨wr.heap.size,2,none⟩) (Nat.le_refl _) _).alloc (by rw [size_setCell,size_setCell,size_setCell];omega) _
            have OX:=hid (HI.out.2.2.2.2.2.2.1.below bX.out)
            have bwX:=hid (HI.out.2.2.2.2.2.2.2.trans (bX.out.mono HI.out.2.2.2.2.2.2.2.size))
            have ownX:Hid (OwnRow X 27 3 g k c):=by
              have h:=OX.out.own
              rw [HI.out.2.1] at h
              exact h
            have hXn:Hid (X.heap[w1.heap.size]?=some (.cells #[.int .i64 x.c,.int .i64 x.t,.string ⟨x.s.toArray⟩] 27 (0,0))):=by
              show _=_
              have:=heap_alloc_new (((w1.setCell ⟨wr.heap.size,0,none⟩ (.int .i64 x.c)).setCell ⟨wr.heap.size,1,none⟩ (.int .i64 x.t)).setCell ⟨wr.heap.size,2,none⟩ (.string ⟨x.s.toArray⟩)) (.cells #[.int .i64 x.c,.int .i64 x.t,.string ⟨x.s.toArray⟩] 27)
              rw [size_setCell,size_setCell,size_setCell] at this
              rw [hX];exact this
            have HX:=hid hX
            clear hX
            go_wp2_with (at_builtin;rw [← HX.out];refine wpList_app _ rfl (.tmp 25) (.tmp 27) 28 rfl 27 il (.agg #[.int .i64 0,.int .i64 0,.string ⟨#[]⟩]) 3 32 Tryz.underlying28 hil hil0 hil1 hil2 rfl g k c (by rfl) ownX.out ⟨w1.heap.size,0,none⟩ 1 1 [.int .i64 x.c,.int .i64 x.t,.string ⟨x.s.toArray⟩] rfl rfl ?c1 ?c2 (by omega) (by omega) (by omega) ?_)
            case c1=>exact World.news_of_block hXn.out
            case c2=>intro u hu;simp at hu;rcases hu with rfl | rfl | rfl <;> rfl
            intro g' c' w2 P
            have HP:=hid (OwnLines.app' OX.out bwX.out HI.out.2.1 P)
            clear P
            go_wp2
            go_roundw
            case rel=>exact ⟨k+1,ls++[x],r2,some g',c',a2,r2.length,cap2,by omega,by go_num,rfl,rfl,HS.out,by rw [List.length_append,HI.out.2.1];rfl,rfl,by have:=HI.out;have:=HRL.out;omega,HCP.out,HBI.out,HP.out.1,HP.out.2⟩
            case measure=>simp [intOf];omega
        · go_wp2
          go_ret3
          have ek:k=z.toNat:=by omega
          subst ek
          obtain ⟨h1,h2,h3,h4,h5,h6,h7,h8⟩:=HI.out
          obtain ⟨e1,e2,e3⟩:=ts_yes b (HTL.out.trans h1)
          refine ⟨g,c,ar,cr,?_,?_,?_,?_,h8⟩
          · rw [e1,e2,e3,h2,h3];rfl
          · rw [e1];exact h7
          · rw [e2];exact h6
          · rw [e2,h3];exact h5
theorem sum_at (a:Option Addr) (n cap:Nat) (l:List UInt8) (w:World) (hl:BytesIn w a l) (e:l.length=n) (hn:l.length≤100000000) :
    Calls Tryz.prog 117 #[.slice a n cap] w fun e w'=>e=.returned (.int .u16 (chk l:Int))∧w'=w:=by subst e;exact sum_any a cap l w hl hn
theorem u8_beq (x:UInt8) (m:Nat) (i:Int) (hm:m < 256) (hi:i=m):(x == UInt8.ofNat m)=decide ((x.toNat:Int)=i):=by
  subst hi
  rw [Bool.eq_iff_iff,beq_iff_eq,decide_eq_true_eq,← UInt8.toNat_inj,UInt8.toNat_ofNat',Nat.mod_eq_of_lt (by omega)]
  omega
def Stripped (w:World) (a:Option Addr) (cap:Nat) (b:List UInt8) (e:Ending) (w':World):Prop :=
  e=.returned (.tuple #[if stripOk b then .slice a (b.length - 2) cap else .slice none 0 0,.bool (stripOk b)])∧w'=w
theorem stripped_no {w:World} {a:Option Addr} {cap:Nat} {b:List UInt8} (h:stripOk b=false):Stripped w a cap b (.returned (.tuple #[.slice none 0 0,.bool false])) w:=⟨by rw [h];rfl,rfl⟩
theorem stripped_yes {w:World} {a:Option Addr} {cap n:Nat} {b:List UInt8} (h:stripOk b=true) (e:b.length=n+2):Stripped w a cap b (.returned (.tuple #[.slice a n cap,.bool true])) w:=⟨by rw [h,e];rfl,rfl⟩
theorem strip_go (a:Option Addr) (cap:Nat) (b:List UInt8) (w:World) (hb:BytesIn w a b) (hn:b.length≤100000000) (hcap:b.length≤cap) :
    Calls Tryz.prog 73 #[sla a b.length cap] w (Stripped w a cap b):=by
  have HB:=hid hb
  clear hb
  unfold sla
  rcases Nat.lt_or_ge b.length 2 with h2 | h2
  · have HN:Hid (stripOk b=false):=by show _=_;unfold stripOk;rw [show decide (2≤b.length)=false from by simp;omega];rfl
    go_enter Tryz.func73,Tryz.ntmps73
    go_wp2
    go_ret2
    exact stripped_no HN.out
  · obtain ⟨g,o,rfl,hx0⟩:=HB.out 0 (by omega)
    clear hx0
    obtain ⟨n,hbl⟩:∃ n,b.length=n+2:=⟨b.length - 2,by omega⟩
    have c0:=HB.out.cell n (by omega)
    have c1:=HB.out.cell (n+1) (by omega)
    have HS:Hid (stripOk b=((b.getD n 0 == UInt8.ofNat (chk (b.take n) % 256)) && (b.getD (n+1) 0 == UInt8.ofNat (chk (b.take n) / 256)))):=by
      show _=_
      unfold stripOk
      rw [hbl]
      simp
    have HT:Hid (BytesIn w (some ⟨g,o,none⟩) (b.take n)∧(b.take n).length=n):=⟨HB.out.take n,by rw [List.length_take];omega⟩
    have HBL:=hid hbl
    rw [hbl] at hn hcap ⊢
    clear h2 hbl HB
    have hcs:=chk_lt (b.take n)
    generalize b.getD n 0=x at c0 HS
    generalize b.getD (n+1) 0=y at c1 HS
    have hx:x.toNat < 256:=x.toNat_lt
    have hy:y.toNat < 256:=y.toNat_lt
    have hi0:(0:Int)≤(n:Int):=by omega
    have hi1:(n:Int)≤(cap:Int):=by omega
    go_enter Tryz.func73,Tryz.ntmps73
    go_wp2_with fail
    refine (sum_at _ n cap (b.take n) _ HT.out.1 HT.out.2 (by have:=HT.out.2;omega)).mono ?_
    rintro e w1 ⟨rfl,rfl⟩
    generalize chk (b.take n)=s at HS hcs
    have e0:Hid ((x == UInt8.ofNat (s % 256))=decide ((x.toNat:Int)=(s:Int) % 256)):=u8_beq x (s % 256) (s % 256:Int) (by omega) (by omega)
    have e1:Hid ((y == UInt8.ofNat (s / 256))=decide ((y.toNat:Int)=(s:Int) / 256)):=u8_beq y (s / 256) (s / 256:Int) (by omega) (by omega)
    go_wp2
    · have hq:((y.toNat:Int) != (s:Int) / 256)=true:=by assumption
      go_ret2
      exact stripped_no (by rw [HS.out,e1.out];simp only [bne_iff_ne,ne_eq] at hq;simp [hq])
    · have hp:(x.toNat:Int)=(s:Int) % 256:=by assumption
      have hq:((y.toNat:Int) != (s:Int) / 256)=false:=by assumption
      go_ret2
      exact stripped_yes (by rw [HS.out,e0.out,e1.out];simp only [bne_eq_false_iff_eq] at hq;simp [hp,hq]) HBL.out
    · have hp:¬ (x.toNat:Int)=(s:Int) % 256:=by assumption
      go_ret2
      exact stripped_no (by rw [HS.out,e0.out];simp [hp])
def fb (k:Int):Int :=
  if k=1 then 32 else if k=2 then 47 else if k=3 then 7 else if k=4 then 11 else if k=5 then 3 else if k=8 then 3 else if k=6 then 91 else if k=7 then 75 else if k=9 then 38 else 0
theorem fieldsOf_go (k:Int) (w:World):Calls Tryz.prog 69 #[.int .i64 k] w fun e w'=>e=.returned (.int .i64 (fb k))∧w'=w:=by
  go_enter Tryz.func69,Tryz.ntmps69
  go_wp2
  all_goals (go_ret;refine ⟨ret_int ?_,rfl⟩;unfold fb;simp_all)
def fitsG (has n most:Int):Bool:=if has=0 then n == 0 else decide (0≤n) && decide (n≤most)
theorem fits_go (has n most:Int) (w:World):Calls Tryz.prog 113 #[.int .i64 has,.int .i64 n,.int .i64 most] w fun e w'=>e=.returned (.bool (fitsG has n most))∧w'=w:=by
  go_enter Tryz.func113,Tryz.ntmps113
  go_wp2
  all_goals (go_ret;refine ⟨ret_bool ?_,rfl⟩;unfold fitsG;simp_all;try omega)
def leastG (k:Int):Int:=if k=2∨k=9 then 1 else 0
theorem leastPlace_go (k:Int) (w:World):Calls Tryz.prog 114 #[.int .i64 k] w fun e w'=>e=.returned (.int .i64 (leastG k))∧w'=w:=by
  go_enter Tryz.func114,Tryz.ntmps114
  go_wp2
  all_goals (go_ret;refine ⟨ret_int ?_,rfl⟩;unfold leastG;simp_all)
def fitsLineG (f:Fr) (has:Int):Bool:=if has=0 then f.line.isZero else !(f.kind == 9 && !f.line.s.isEmpty) && f.line.ok
theorem fitsLine_go (f:Fr) (a:Option Addr) (cap:Nat) (has:Int) (w:World):Calls Tryz.prog 115 #[f.val a cap,.int .i64 has] w fun e w'=>e=.returned (.bool (fitsLineG f has))∧Below w.heap.size w w':=by
  obtain ⟨kind,frm,view,place,agreed,last,⟨c,t,s⟩,ls⟩:=f
  unfold Fr.val sla
  dsimp only
  have HO:Hid (∀ h,fitsLineG ⟨kind,frm,view,place,agreed,last,⟨c,t,s⟩,ls⟩ h=if h=0 then (Ln.mk c t s).isZero else !(kind == 9 && !s.isEmpty) && (Ln.mk c t s).ok):=fun h=>rfl
  go_enter Tryz.func115,Tryz.ntmps115
  go_wp2_with (go_at_call 160;refine (rightLine_any ⟨c,t,s⟩ _).mono ?_;rintro e w2 ⟨rfl,hb2⟩;have HB2:=hid hb2;clear hb2)
  all_goals
    go_ret
    refine ⟨ret_bool ?_,?_⟩
  all_goals (try first | exact (Below.refl _ _).alloc (Nat.le_refl _) _ | exact ((Below.refl _ _).alloc (Nat.le_refl _) _).trans (HB2.out.mono (by simp)))
  all_goals (rw [HO.out];simp_all [Ln.isZero])
def fitsLinesG (f:Fr) (has:Int):Bool:=if has=0 then f.lines.isEmpty else linesOk f.lines
theorem fitsLines_go (f:Fr) (a:Option Addr) (cap:Nat) (has:Int) (w:World) (hl:LinesAt w a f.lines) (hn:f.lines.length≤100000000) (hcap:f.lines.length≤cap):Calls Tryz.prog 116 #[f.val a cap,.int .i64 has] w fun e w'=>e=.returned (.bool (fitsLinesG f has))∧Below w.heap.size w w':=by
  obtain ⟨kind,frm,view,place,agreed,last,⟨c,t,s⟩,ls⟩:=f
  have HL:=hid hl
  dsimp only at HL hn hcap
  clear hl
  unfold Fr.val sla
  dsimp only
  have HO:Hid (∀ h,fitsLinesG ⟨kind,frm,view,place,agreed,last,⟨c,t,s⟩,ls⟩ h=if h=0 then ls.isEmpty else linesOk ls):=fun h=>rfl
  go_enter Tryz.func116,Tryz.ntmps116
  go_wp2_with (go_at_call 161;refine (right_lines a cap ls _ (HL.out.alloc _) hn hcap).mono ?_;rintro e w2 ⟨rfl,hb2⟩;have HB2:=hid hb2;clear hb2)
  all_goals
    go_ret
    refine ⟨ret_bool ?_,?_⟩
  all_goals (try first | exact (Below.refl _ _).alloc (Nat.le_refl _) _ | exact ((Below.refl _ _).alloc (Nat.le_refl _) _).trans (HB2.out.mono (by simp)))
  all_goals (rw [HO.out];have:=len_isEmpty ls;simp_all)
end
end Go.Proofs.YtolififimldmlaaGreat
