import Derived.Test.YtolififimldmlaaGreatPart07
set_option linter.unusedVariables false
set_option linter.unusedSimpArgs false
set_option maxRecDepth 100000
set_option maxHeartbeats 16000000
namespace Go.Proofs.YtolififimldmlaaGreat
section
open Go.RowKit
attribute [local go_sem ↓] Go.wp_at_zero Go.wp_at_succ
theorem refPack_at (f:Fr) (a:Option Addr) (cap:Nat) (w:World) (hl:LinesAt w a f.lines) (hn:f.lines.length≤100000000) (hcap:f.lines.length≤cap) (v:Value) (hv:v=f.val a cap) :
    Calls Tryz.prog 50 #[v] w fun e w'=>e=.returned (.tuple #[.string ⟨(packS f).toArray⟩,.int .i64 (packE f)])∧Below w.heap.size w w':=by
  subst hv;exact refPack_any f a cap w hl hn hcap
theorem setOther_heap {w:World} {B C j:Nat} {v:Value} {o:Obj} (h:w.heap[B]?=some o) (hn:B≠C):(w.setCell ⟨C,j,none⟩ v).heap[B]?=some o:=by
  rw [Below.heap_setCell _ _ _ _ hn];exact h
theorem takeN_len (b:List UInt8):∀ (k:Nat) (ls:List Ln) (r:List UInt8),takeN b k=some (ls,r)→ls.length=k
  | 0,ls,r,h=>by cases h;rfl
  | k+1,ls,r,h=>by
    change (takeN b k).bind _=_ at h
    cases e:takeN b k with
    | none=>rw [e] at h;cases h
    | some p =>
      rw [e] at h
      change (takeLine p.2).map _=_ at h
      cases e2:takeLine p.2 with
      | none=>rw [e2] at h;cases h
      | some q =>
        rw [e2] at h
        cases h
        rw [List.length_append,takeN_len b k p.1 p.2 e];rfl
theorem tsLines_len (b:List UInt8):(tsLines b).length≤256:=by
  unfold tsLines
  cases e:takeLines b with
  | none=>simp
  | some p =>
    unfold takeLines at e
    split at e
    · cases e
    · have:=takeN_len _ _ p.1 p.2 e
      have:=(b.getD 0 0).toNat_lt
      simp;omega
theorem size_setCell (w:World) (a:Addr) (v:Value):(w.setCell a v).heap.size=w.heap.size:=by simp [World.setCell]
theorem OwnLines.setOther {w x:World} {g:Option Nat} {c:Nat} {ls:List Ln} (h:OwnLines w x g c ls) (B j:Nat) (v:Value) (hn:g≠some B):OwnLines w (x.setCell ⟨B,j,none⟩ v) g c ls:=by
  refine ⟨fun i hi=>?_,h.own.setOther B j v hn,h.new⟩
  obtain ⟨k,o,e,h0,h1,h2⟩:=h.at_ i hi
  have hk:B≠k:=fun e'=>by
    cases g with
    | none=>cases e
    | some g' =>
      simp only [Option.map_some,Option.some.injEq,Addr.mk.injEq] at e
      exact hn (by rw [e.1,e'])
  exact ⟨k,o,e,(cell_set_ne _ (.inl hk)).trans h0,(cell_set_ne _ (.inl hk)).trans h1,(cell_set_ne _ (.inl hk)).trans h2⟩
theorem OwnLines.below {w x y:World} {g:Option Nat} {c:Nat} {ls:List Ln} (h:OwnLines w x g c ls) (hb:Below x.heap.size x y):OwnLines w y g c ls :=
  ⟨h.at_.below hb,h.own.touch (T:=fun _=>False) (Touch.of_belowAll hb _) (fun _ _ e=>e),h.new⟩
theorem OwnLines.base {u w x:World} {g:Option Nat} {c:Nat} {ls:List Ln} (h:OwnLines w x g c ls) (hb:u.heap.size≤w.heap.size):OwnLines u x g c ls :=
  ⟨h.at_,h.own,fun k e=>Nat.le_trans hb (h.new k e)⟩
theorem OwnLines.cap {w x:World} {g:Option Nat} {c:Nat} {ls:List Ln} (h:OwnLines w x g c ls):ls.length≤c:=by
  rcases h.own with ⟨_,e,_⟩ | ⟨k,cur,_,_,_,e,_⟩
  · omega
  · exact e
theorem OwnLines.set10 {w x:World} {g:Option Nat} {c:Nat} {ls:List Ln} (h:OwnLines w x g c ls) {B:Nat} (hn:g≠some B) (v0 v1 v2 v3 v4 v5 v6 v7 v8 v9:Value):OwnLines w ((((((((((x.setCell ⟨B,0,none⟩ v0).setCell ⟨B,1,none⟩ v1).setCell ⟨B,2,none⟩ v2).setCell ⟨B,3,none⟩ v3).setCell ⟨B,4,none⟩ v4).setCell ⟨B,5,none⟩ v5).setCell ⟨B,6,none⟩ v6).setCell ⟨B,7,none⟩ v7).setCell ⟨B,8,none⟩ v8).setCell ⟨B,9,none⟩ v9) g c ls :=
  (((((((((h.setOther B 0 _ hn).setOther B 1 _ hn).setOther B 2 _ hn).setOther B 3 _ hn).setOther B 4 _ hn).setOther B 5 _ hn).setOther B 6 _ hn).setOther B 7 _ hn).setOther B 8 _ hn).setOther B 9 _ hn
theorem sla_own (g:Option Nat) (n c:Nat):sla (g.map fun k=>(⟨k,0,none⟩:Addr)) n c=.slice (g.map fun k=>⟨k,0,none⟩) n c:=rfl
theorem set10 {w:World} {B:Nat} {cur:Array Value} {e:TypeId} {f:Nat × Nat} (h:w.heap[B]?=some (.cells cur e f)) (hs:cur.size=10) (v0 v1 v2 v3 v4 v5 v6 v7 v8 v9:Value) :
    ((((((((((w.setCell ⟨B,0,none⟩ v0).setCell ⟨B,1,none⟩ v1).setCell ⟨B,2,none⟩ v2).setCell ⟨B,3,none⟩ v3).setCell ⟨B,4,none⟩ v4).setCell ⟨B,5,none⟩ v5).setCell ⟨B,6,none⟩ v6).setCell ⟨B,7,none⟩ v7).setCell ⟨B,8,none⟩ v8).setCell ⟨B,9,none⟩ v9).heap[B]?=some (.cells #[v0,v1,v2,v3,v4,v5,v6,v7,v8,v9] e f):=by
  match cur,hs with
  | ⟨[a0,a1,a2,a3,a4,a5,a6,a7,a8,a9]⟩,_ =>
    have hh:=heap_setCell (heap_setCell (heap_setCell (heap_setCell (heap_setCell (heap_setCell (heap_setCell (heap_setCell (heap_setCell (heap_setCell h 0 v0) 1 v1) 2 v2) 3 v3) 4 v4) 5 v5) 6 v6) 7 v7) 8 v8) 9 v9
    simp only [List.setIfInBounds_toArray,List.set_cons_zero,List.set_cons_succ] at hh
    exact hh
theorem below10 {w u:World} {B C:Nat} (h:Below C u w) (hB:C≤B) (v0 v1 v2 v3 v4 v5 v6 v7 v8 v9:Value):Below C u ((((((((((w.setCell ⟨B,0,none⟩ v0).setCell ⟨B,1,none⟩ v1).setCell ⟨B,2,none⟩ v2).setCell ⟨B,3,none⟩ v3).setCell ⟨B,4,none⟩ v4).setCell ⟨B,5,none⟩ v5).setCell ⟨B,6,none⟩ v6).setCell ⟨B,7,none⟩ v7).setCell ⟨B,8,none⟩ v8).setCell ⟨B,9,none⟩ v9) :=
  (((((((((h.setCell (p:=⟨B,0,none⟩) hB _).setCell (p:=⟨B,1,none⟩) hB _).setCell (p:=⟨B,2,none⟩) hB _).setCell (p:=⟨B,3,none⟩) hB _).setCell (p:=⟨B,4,none⟩) hB _).setCell (p:=⟨B,5,none⟩) hB _).setCell (p:=⟨B,6,none⟩) hB _).setCell (p:=⟨B,7,none⟩) hB _).setCell (p:=⟨B,8,none⟩) hB _).setCell (p:=⟨B,9,none⟩) hB _
theorem refRet {Q:Ending→World→Prop} {a:Act} {W:World} {B:Nat} {fz:Nat × Nat} {v0 v1 v2 v3 v4 v5 v6 v7 v8 v9:Value} {er:Int} (hB:W.heap[B]?=some (.cells #[v0,v1,v2,v3,v4,v5,v6,v7,v8,v9] 30 fz))
    (ht:a.tmps[2]?=some (.pointer (some ⟨B,0,none⟩))) (he:a.tmps[3]?=some (.int .i64 er)) (hd:a.defers=[]) (hq:Q (.returned (.tuple #[.agg #[v0,v1,v2,v3,v4,v5,v6,v7,v8,v9],.int .i64 er])) W):bodyPost Tryz.prog Tryz.f97 Q Exit.ret a W:=by
  have c0:W.cell? ⟨B,0,none⟩=some v0:=(cell_of_heap hB 0).trans rfl
  have c1:W.cell? ⟨B,1,none⟩=some v1:=(cell_of_heap hB 1).trans rfl
  have c2:W.cell? ⟨B,2,none⟩=some v2:=(cell_of_heap hB 2).trans rfl
  have c3:W.cell? ⟨B,3,none⟩=some v3:=(cell_of_heap hB 3).trans rfl
  have c4:W.cell? ⟨B,4,none⟩=some v4:=(cell_of_heap hB 4).trans rfl
  have c5:W.cell? ⟨B,5,none⟩=some v5:=(cell_of_heap hB 5).trans rfl
  have c6:W.cell? ⟨B,6,none⟩=some v6:=(cell_of_heap hB 6).trans rfl
  have c7:W.cell? ⟨B,7,none⟩=some v7:=(cell_of_heap hB 7).trans rfl
  have c8:W.cell? ⟨B,8,none⟩=some v8:=(cell_of_heap hB 8).trans rfl
  have c9:W.cell? ⟨B,9,none⟩=some v9:=(cell_of_heap hB 9).trans rfl
  exact bodyPost_ret (v:=.tuple #[.agg #[v0,v1,v2,v3,v4,v5,v6,v7,v8,v9],.int .i64 er]) (by simp [results,Tryz.results97,go_sem,ht,he,c0,c1,c2,c3,c4,c5,c6,c7,c8,c9]) hd hq
theorem refUnpack_long (b:List UInt8) (w:World) (hn:b.length≤100000000) (h8:8≤b.length) (h1:1≤kindOf b) (h9:kindOf b≤9) :
    Calls Tryz.prog 97 #[.string ⟨b.toArray⟩] w (RetFrame w b):=by
  have i0:∀ h,(⟨b.toArray⟩:ByteArray)[0]'h=b.getD 0 0:=fun h=>by rw [getD_at b 0 0 (by omega)];rfl
  have i1:∀ h,(⟨b.toArray⟩:ByteArray)[1]'h=b.getD 1 0:=fun h=>by rw [getD_at b 1 0 (by omega)];rfl
  have i2:∀ h,(⟨b.toArray⟩:ByteArray)[2]'h=b.getD 2 0:=fun h=>by rw [getD_at b 2 0 (by omega)];rfl
  have i3:∀ h,(⟨b.toArray⟩:ByteArray)[3]'h=b.getD 3 0:=fun h=>by rw [getD_at b 3 0 (by omega)];rfl
  have i4:∀ h,(⟨b.toArray⟩:ByteArray)[4]'h=b.getD 4 0:=fun h=>by rw [getD_at b 4 0 (by omega)];rfl
  have i5:∀ h,(⟨b.toArray⟩:ByteArray)[5]'h=b.getD 5 0:=fun h=>by rw [getD_at b 5 0 (by omega)];rfl
  have HF:Hid (parseF b=⟨(b.getD 0 0).toNat,(b.getD 1 0).toNat,(b.getD 2 0).toNat,(b.getD 3 0).toNat,(b.getD 4 0).toNat,(b.getD 5 0).toNat,if hasB (b.getD 0 0).toNat 49 then tlLine (midOf b) else Ln.zero,if hasB (b.getD 0 0).toNat 110 then tsLines (midOf b) else []⟩):=rfl
  have HP:Hid (parseOk b=(if hasB (b.getD 0 0).toNat 49 then tlOk (midOf b) && (tlRest (midOf b)).isEmpty else if hasB (b.getD 0 0).toNat 110 then tsOk (midOf b) && (tsRest (midOf b)).isEmpty else (midOf b).isEmpty)):=rfl
  have HU:Hid (unpackR b=if parseOk b=false then none else if (parseF b).ok=false∨(parseF b).bytes≠b then none else some (parseF b)):=by
    show _=_
    unfold unpackR;rw [if_neg (by omega)]
  have HM:Hid ((⟨b.toArray⟩:ByteArray).extract 6 (b.length - 2)=⟨(midOf b).toArray⟩):=extr _ _ _
  have hml:(midOf b).length≤100000000:=by unfold midOf;rw [List.length_take,List.length_drop];omega
  unfold kindOf at h1 h9
  generalize b.getD 0 0=x0 at i0 HF HP h1 h9
  generalize b.getD 1 0=x1 at i1 HF
  generalize b.getD 2 0=x2 at i2 HF
  generalize b.getD 3 0=x3 at i3 HF
  generalize b.getD 4 0=x4 at i4 HF
  generalize b.getD 5 0=x5 at i5 HF
  have hx0:x0.toNat < 256:=x0.toNat_lt
  have hx1:x1.toNat < 256:=x1.toNat_lt
  have hx2:x2.toNat < 256:=x2.toNat_lt
  have hx3:x3.toNat < 256:=x3.toNat_lt
  have hx4:x4.toNat < 256:=x4.toNat_lt
  have hx5:x5.toNat < 256:=x5.toNat_lt
  have hi6:(6:Int)≤(b.length:Int) - 2:=by omega
  have j0:(0:Int) < (b.length:Int):=by omega
  have j1:(1:Int) < (b.length:Int):=by omega
  have j2:(2:Int) < (b.length:Int):=by omega
  have j3:(3:Int) < (b.length:Int):=by omega
  have j4:(4:Int) < (b.length:Int):=by omega
  have j5:(5:Int) < (b.length:Int):=by omega
  go_enter Tryz.func97,Tryz.ntmps97
  go_wp2
  refine wp_region_any (by kernel_rfl) ?_
  try (change wpAny _ _ _ _ _ _ _ (World.drew _))
  refine tA 0 ?_
  try simp only [lA,lB,lC,Act.put,lD,lE,lF]
  refine tA 1 ?_
  try simp only [lA,lB,lC,Act.put,lD,lE,lF]
  refine tA 2 ?_
  try simp only [lA,lB,lC,Act.put,lD,lE,lF]
  refine tA 3 ?_
  try simp only [lA,lB,lC,Act.put,lD,lE,lF]
  refine tA 4 ?_
  try simp only [lA,lB,lC,Act.put,lD,lE,lF]
  refine tA 5 ?_
  try simp only [lA,lB,lC,Act.put,lD,lE,lF]
  refine tA 6 ?_
  try simp only [lA,lB,lC,Act.put,lD,lE,lF]
  refine tA 7 ?_
  try simp only [lA,lB,lC,Act.put,lD,lE,lF]
  refine tA 8 ?_
  try simp only [lA,lB,lC,Act.put,lD,lE,lF]
  refine tA 9 ?_
  try simp only [lA,lB,lC,Act.put,lD,lE,lF]
  refine tA 10 ?_
  try simp only [lA,lB,lC,Act.put,lD,lE,lF]
  refine tA 11 ?_
  try simp only [lA,lB,lC,Act.put,lD,lE,lF]
  refine tA 12 ?_
  try simp only [lA,lB,lC,Act.put,lD,lE,lF]
  refine tA 13 ?_
  try simp only [lA,lB,lC,Act.put,lD,lE,lF]
  refine tA 14 ?_
  try simp only [lA,lB,lC,Act.put,lD,lE,lF]
  refine tA 15 ?_
  try simp only [lA,lB,lC,Act.put,lD,lE,lF]
  refine tA 16 ?_
  try simp only [lA,lB,lC,Act.put,lD,lE,lF]
  refine tA 17 ?_
  try simp only [lA,lB,lC,Act.put,lD,lE,lF]
  refine tA 18 ?_
  try simp only [lA,lB,lC,Act.put,lD,lE,lF]
  refine wpAny_ready (rs:=[19]) (by kernel_rfl) (by simp) ?_
  refine AllReady.cons rfl (fun K hK=>?_) AllReady.nil
  go_simp
  refine hK _ _ ?_
  clear hK K
  refine wpAny_ready (rs:=[20]) (by kernel_rfl) (by simp) ?_
  refine AllReady.cons rfl (fun K hK=>?_) AllReady.nil
  go_simp
  refine hK _ _ ?_
  clear hK K
  refine wpAny_done (by kernel_rfl) ?_ _
  go_wp2_with fail
  refine (fields_any x0.toNat _ h1 h9).mono ?_
  rintro e w1 ⟨rfl,hb1⟩
  have hz1:w.heap.size+2 < w1.heap.size:=by have:=hb1.size;simp at this;omega
  have HW1:Hid (Below w.heap.size w w1):=(((((Below.refl _ w).alloc (Nat.le_refl _) _).alloc (by simp) _).alloc (by simp;omega) _).drew).trans (hb1.mono (by simp;omega))
  have HB0:Hid (w1.heap[w.heap.size]?=some (.cells #[.int .i64 0,.int .i64 0,.int .i64 0,.int .i64 0,.int .i64 0,.int .i64 0,.int .i64 0,.int .i64 0,.string ⟨#[]⟩,.slice none 0 0] 30 (0,0))):=by
    show _=_
    rw [hb1.block _ (by simp;omega)]
    show (((w.alloc _).alloc _).alloc _).heap[w.heap.size]?=_
    rw [Below.heap_alloc _ _ _ (by simp;omega),Below.heap_alloc _ _ _ (by simp)]
    exact heap_alloc_new w _
  obtain ⟨q1,q2⟩:=bcell hb1
  clear hb1
  go_wp2_with fail
  refine (has_k x0.toNat 49 _ rfl _).mono ?_
  rintro e w1a ⟨rfl,hwa⟩
  rw [hwa]
  clear hwa w1a
  go_wp2_with fail
  refine (has_k x0.toNat 110 _ rfl _).mono ?_
  rintro e w1a ⟨rfl,hwa⟩
  rw [hwa]
  clear hwa w1a
  rw [HM.out]
  have hz3:w.heap.size < w1.heap.size:=by omega
  have hz4:w.heap.size+1 < w1.heap.size:=by omega
  clear i0 i1 i2 i3 i4 i5 hx0 hx1 hx2 hx3 hx4 hx5 j0 j1 j2 j3 j4 j5 hi6 h1 h9
  cases h49:hasB x0.toNat 49
  · cases h110:hasB x0.toNat 110
    · rw [h49,h110] at HF HP
      have HP':Hid (parseOk b=(midOf b).isEmpty):=HP.out
      have HF':Hid (parseF b=⟨x0.toNat,x1.toNat,x2.toNat,x3.toNat,x4.toNat,x5.toNat,Ln.zero,[]⟩):=HF.out
      clear HP HF h49 h110
      generalize midOf b=md at *
      cases md with
      | cons y ys =>
        have HN:Hid (unpackR b=none):=by show _=_;rw [HU.out,HP'.out];rfl
        go_wp2
        refine refRet (set10 HB0.out rfl _ _ _ _ _ _ _ _ _ _) rfl rfl rfl (ret_zero HN.out ?_)
        exact below10 HW1.out (Nat.le_refl _) _ _ _ _ _ _ _ _ _ _
      | nil =>
        have HT:Hid (parseOk b=true):=HP'.out
        go_wp2_with fail
        refine (refPack_at (parseF b) none 0 _ (fun j hj=>by rw [HF'.out] at hj;exact absurd hj (by simp)) (by rw [HF'.out];simp) (by rw [HF'.out];simp) _ (by rw [HF'.out];rfl)).mono ?_
        rintro e w2 ⟨rfl,hb2⟩
        obtain ⟨p1,p2⟩:=bcell hb2
        have hz5:w.heap.size < w2.heap.size:=by have:=hb2.size;omega
        have hz6:w.heap.size+1 < w2.heap.size:=by have:=hb2.size;omega
        have hz7:w.heap.size+1+1 < w2.heap.size:=by have:=hb2.size;omega
        have HW2:=hid (HW1.out.trans (hb2.mono HW1.out.size))
        have HB2:=hid ((hb2.block w.heap.size hz3).trans HB0.out)
        clear hb2
        cases hok:(parseF b).ok
        · have HE:Hid (packE (parseF b)=3):=by show _=_;simp [packE,hok]
          have HN:Hid (unpackR b=none):=by show _=_;rw [HU.out,HT.out,hok];rfl
          rw [HE.out]
          go_wp2
          refine refRet (set10 HB2.out rfl _ _ _ _ _ _ _ _ _ _) rfl rfl rfl (ret_zero HN.out ?_)
          exact below10 HW2.out (Nat.le_refl _) _ _ _ _ _ _ _ _ _ _
        · have HE:Hid (packE (parseF b)=0):=by show _=_;simp [packE,hok]
          have HS:Hid (packS (parseF b)=(parseF b).bytes):=by show _=_;simp [packS,hok]
          rw [HE.out,HS.out]
          by_cases heq:(parseF b).bytes=b
          · have HY:Hid (unpackR b=some (parseF b)):=by show _=_;rw [HU.out,HT.out,hok,heq];simp
            rw [heq]
            go_wp2
            refine refRet (set10 HB2.out rfl _ _ _ _ _ _ _ _ _ _) rfl rfl rfl ⟨none,0,?_,?_,?_⟩
            · rw [(un_yes HY.out).1,(un_yes HY.out).2,HF'.out];rfl
            · rw [(un_yes HY.out).1,HF'.out];exact ⟨fun j hj=>absurd hj (by simp),.inl ⟨rfl,rfl,rfl⟩,fun k e=>by cases e⟩
            · exact below10 HW2.out (Nat.le_refl _) _ _ _ _ _ _ _ _ _ _
          · have HN:Hid (unpackR b=none):=by show _=_;rw [HU.out,HT.out,hok];simp [heq]
            have hne:((parseF b).bytes == b)=false:=beq_eq_false_iff_ne.2 heq
            go_wp2
            refine refRet (set10 HB2.out rfl _ _ _ _ _ _ _ _ _ _) rfl rfl rfl (ret_zero HN.out ?_)
            exact below10 HW2.out (Nat.le_refl _) _ _ _ _ _ _ _ _ _ _
    · rw [h49,h110] at HF HP
      have HP':Hid (parseOk b=(tsOk (midOf b) && (tsRest (midOf b)).isEmpty)):=HP.out
      have HF':Hid (parseF b=⟨x0.toNat,x1.toNat,x2.toNat,x3.toNat,x4.toNat,x5.toNat,Ln.zero,tsLines (midOf b)⟩):=HF.out
      have HTL:=hid (tsLines_len (midOf b))
      clear HP HF h49 h110
      go_wp2_with fail
      refine (linesAt_any (midOf b) _ hml).mono ?_
      rintro e w2 ⟨g,c,rfl,hol,hb2⟩
      have HOL:=hid hol
      clear hol
      generalize midOf b=md at *
      obtain ⟨r1,r2⟩:=bcell hb2
      have hy1:w.heap.size+2 < w2.heap.size:=by have:=hb2.size;omega
      have hy3:w.heap.size < w2.heap.size:=by omega
      have hy4:w.heap.size+1 < w2.heap.size:=by omega
      have HW2:=hid (HW1.out.trans (hb2.mono HW1.out.size))
      have HB2:=hid ((hb2.block w.heap.size hz3).trans HB0.out)
      clear hb2
      cases hk:tsOk md
      · have HN:Hid (unpackR b=none):=by show _=_;rw [HU.out,HP'.out,hk];rfl
        unfold sl
        go_wp2
        refine refRet (set10 (setOther_heap HB2.out (by omega)) rfl _ _ _ _ _ _ _ _ _ _) rfl rfl rfl (ret_zero HN.out ?_)
        exact below10 (HW2.out.setCell (p:=⟨w.heap.size+1+1,9,none⟩) (by dsimp only;omega) _) (Nat.le_refl _) _ _ _ _ _ _ _ _ _ _
      · cases hr:tsRest md with
        | cons y ys =>
          have HN:Hid (unpackR b=none):=by show _=_;rw [HU.out,HP'.out,hk,hr];rfl
          unfold sl
          go_wp2
          refine refRet (set10 (setOther_heap HB2.out (by omega)) rfl _ _ _ _ _ _ _ _ _ _) rfl rfl rfl (ret_zero HN.out ?_)
          exact below10 (HW2.out.setCell (p:=⟨w.heap.size+1+1,9,none⟩) (by dsimp only;omega) _) (Nat.le_refl _) _ _ _ _ _ _ _ _ _ _
        | nil =>
          have HT:Hid (parseOk b=true):=by show _=_;rw [HP'.out,hk,hr];rfl
          clear hk hr
          unfold sl
          go_wp2_with fail
          have HV:Hid ((Value.agg #[.int .i64 x0.toNat,.int .i64 x1.toNat,.int .i64 x2.toNat,.int .i64 x3.toNat,.int .i64 x4.toNat,.int .i64 x5.toNat,.int .i64 0,.int .i64 0,.string ⟨#[]⟩,.slice (g.map fun g=>⟨g,0,none⟩) (tsLines md).length c])=(parseF b).val (g.map fun k=>(⟨k,0,none⟩:Addr)) c):=by
            show _=_
            rw [HF'.out];unfold Fr.val;rw [sla_own];rfl
          have HLS:Hid ((parseF b).lines=tsLines md):=by show _=_;rw [HF'.out]
          have hgB:Hid (g≠some (w.heap.size+1+1)):=fun e=>by have:=HOL.out.new _ e;omega
          have hgB0:Hid (g≠some w.heap.size):=fun e=>by have:=HOL.out.new _ e;omega
          have HO2:=hid (HOL.out.setOther (w.heap.size+1+1) 9 (.slice (g.map fun g=>⟨g,0,none⟩) (tsLines md).length c) hgB.out)
          have hcap:=HOL.out.cap
          refine (refPack_at (parseF b) (g.map fun k=>(⟨k,0,none⟩:Addr)) c _ (by rw [HLS.out];exact HO2.out.at_) (by rw [HLS.out];have:=HTL.out;omega) (by rw [HLS.out];exact hcap) _ HV.out).mono ?_
          rintro e w3 ⟨rfl,hb3⟩
          have HO3:=hid (HO2.out.below hb3)
          have HW3:=hid ((HW2.out.setCell (p:=⟨w.heap.size+1+1,9,none⟩) (by dsimp only;omega) (.slice (g.map fun g=>⟨g,0,none⟩) (tsLines md).length c)).trans (hb3.mono (by have:=HW2.out.size;rw [size_setCell];omega)))
          have HB3:=hid ((hb3.block w.heap.size (by rw [size_setCell];omega)).trans (setOther_heap HB2.out (by omega)))
          obtain ⟨p1,p2⟩:=bcell hb3
          rw [size_setCell] at p1 p2
          have hs3:=hb3.size
          rw [size_setCell] at hs3
          have hz5:w.heap.size < w3.heap.size:=by omega
          have hz6:w.heap.size+1 < w3.heap.size:=by omega
          have hz7:w.heap.size+1+1 < w3.heap.size:=by omega
          clear hb3 hs3
          cases hok:(parseF b).ok
          · have HE:Hid (packE (parseF b)=3):=by show _=_;simp [packE,hok]
            have HN:Hid (unpackR b=none):=by show _=_;rw [HU.out,HT.out,hok];rfl
            rw [HE.out]
            go_wp2
            refine refRet (set10 HB3.out rfl _ _ _ _ _ _ _ _ _ _) rfl rfl rfl (ret_zero HN.out ?_)
            exact below10 HW3.out (Nat.le_refl _) _ _ _ _ _ _ _ _ _ _
          · have HE:Hid (packE (parseF b)=0):=by show _=_;simp [packE,hok]
            have HS:Hid (packS (parseF b)=(parseF b).bytes):=by show _=_;simp [packS,hok]
            rw [HE.out,HS.out]
            by_cases heq:(parseF b).bytes=b
            · have HY:Hid (unpackR b=some (parseF b)):=by show _=_;rw [HU.out,HT.out,hok,heq];simp
              rw [heq]
              go_wp2
              refine refRet (set10 HB3.out rfl _ _ _ _ _ _ _ _ _ _) rfl rfl rfl ⟨g,c,?_,?_,?_⟩
              · rw [(un_yes HY.out).1,(un_yes HY.out).2,← HV.out]
              · rw [(un_yes HY.out).1,HLS.out];exact (HO3.out.base HW1.out.size).set10 hgB0.out _ _ _ _ _ _ _ _ _ _
              · exact below10 HW3.out (Nat.le_refl _) _ _ _ _ _ _ _ _ _ _
            · have HN:Hid (unpackR b=none):=by show _=_;rw [HU.out,HT.out,hok];simp [heq]
              have hne:((parseF b).bytes == b)=false:=beq_eq_false_iff_ne.2 heq
              go_wp2
              refine refRet (set10 HB3.out rfl _ _ _ _ _ _ _ _ _ _) rfl rfl rfl (ret_zero HN.out ?_)
              exact below10 HW3.out (Nat.le_refl _) _ _ _ _ _ _ _ _ _ _
  · have h110:hasB x0.toNat 110=false:=by
      cases h:hasB x0.toNat 110
      · rfl
      · exact absurd ⟨h49,h⟩ (no_both _)
    rw [h49,h110] at HF HP
    rw [h110]
    have HP':Hid (parseOk b=(tlOk (midOf b) && (tlRest (midOf b)).isEmpty)):=HP.out
    have HF':Hid (parseF b=⟨x0.toNat,x1.toNat,x2.toNat,x3.toNat,x4.toNat,x5.toNat,tlLine (midOf b),[]⟩):=HF.out
    clear HP HF h49 h110
    go_wp2_with fail
    refine (lineAt_any (midOf b) _ hml).mono ?_
    rintro e w2 ⟨rfl,hb2⟩
    generalize midOf b=md at *
    obtain ⟨r1,r2⟩:=bcell hb2
    have hy1:w.heap.size+2 < w2.heap.size:=by have:=hb2.size;omega
    have hy3:w.heap.size < w2.heap.size:=by omega
    have hy4:w.heap.size+1 < w2.heap.size:=by omega
    have HW2:=hid (HW1.out.trans (hb2.mono HW1.out.size))
    have HB2:=hid ((hb2.block w.heap.size hz3).trans HB0.out)
    clear hb2
    cases hk:tlOk md
    · have HN:Hid (unpackR b=none):=by show _=_;rw [HU.out,HP'.out,hk];rfl
      go_wp2
      refine refRet (set10 (setOther_heap (setOther_heap (setOther_heap HB2.out (by omega)) (by omega)) (by omega)) rfl _ _ _ _ _ _ _ _ _ _) rfl rfl rfl (ret_zero HN.out ?_)
      exact below10 (((HW2.out.setCell (p:=⟨w.heap.size+1+1,6,none⟩) (by dsimp only;omega) _).setCell (p:=⟨w.heap.size+1+1,7,none⟩) (by dsimp only;omega) _).setCell (p:=⟨w.heap.size+1+1,8,none⟩) (by dsimp only;omega) _) (Nat.le_refl _) _ _ _ _ _ _ _ _ _ _
    · cases hr:tlRest md with
      | cons y ys =>
        have HN:Hid (unpackR b=none):=by show _=_;rw [HU.out,HP'.out,hk,hr];rfl
        go_wp2
        refine refRet (set10 (setOther_heap (setOther_heap (setOther_heap HB2.out (by omega)) (by omega)) (by omega)) rfl _ _ _ _ _ _ _ _ _ _) rfl rfl rfl (ret_zero HN.out ?_)
        exact below10 (((HW2.out.setCell (p:=⟨w.heap.size+1+1,6,none⟩) (by dsimp only;omega) _).setCell (p:=⟨w.heap.size+1+1,7,none⟩) (by dsimp only;omega) _).setCell (p:=⟨w.heap.size+1+1,8,none⟩) (by dsimp only;omega) _) (Nat.le_refl _) _ _ _ _ _ _ _ _ _ _
      | nil =>
        have HT:Hid (parseOk b=true):=by show _=_;rw [HP'.out,hk,hr];rfl
        clear hk hr
        go_wp2_with fail
        have HV:Hid ((Value.agg #[.int .i64 x0.toNat,.int .i64 x1.toNat,.int .i64 x2.toNat,.int .i64 x3.toNat,.int .i64 x4.toNat,.int .i64 x5.toNat,.int .i64 (tlLine md).c,.int .i64 (tlLine md).t,.string ⟨(tlLine md).s.toArray⟩,.slice none 0 0])=(parseF b).val none 0):=by
          show _=_
          rw [HF'.out];rfl
        have HLS:Hid ((parseF b).lines=[]):=by show _=_;rw [HF'.out]
        refine (refPack_at (parseF b) none 0 _ (fun j hj=>by rw [HLS.out] at hj;exact absurd hj (by simp)) (by rw [HLS.out];simp) (by rw [HLS.out];simp) _ HV.out).mono ?_
        rintro e w3 ⟨rfl,hb3⟩
        have HW3:=hid ((((HW2.out.setCell (p:=⟨w.heap.size+1+1,6,none⟩) (by dsimp only;omega) _).setCell (p:=⟨w.heap.size+1+1,7,none⟩) (by dsimp only;omega) _).setCell (p:=⟨w.heap.size+1+1,8,none⟩) (by dsimp only;omega) _).trans (hb3.mono (by have:=HW2.out.size;rw [size_setCell,size_setCell,size_setCell];omega)))
        have HB3:=hid ((hb3.block w.heap.size (by rw [size_setCell,size_setCell,size_setCell];omega)).trans (setOther_heap (setOther_heap (setOther_heap HB2.out (by omega)) (by omega)) (by omega)))
        obtain ⟨p1,p2⟩:=bcell hb3
        rw [size_setCell,size_setCell,size_setCell] at p1 p2
        have hs3:=hb3.size
        rw [size_setCell,size_setCell,size_setCell] at hs3
        have hz5:w.heap.size < w3.heap.size:=by omega
        have hz6:w.heap.size+1 < w3.heap.size:=by omega
        have hz7:w.heap.size+1+1 < w3.heap.size:=by omega
        clear hb3 hs3
        cases hok:(parseF b).ok
        · have HE:Hid (packE (parseF b)=3):=by show _=_;simp [packE,hok]
          have HN:Hid (unpackR b=none):=by show _=_;rw [HU.out,HT.out,hok];rfl
          rw [HE.out]
          go_wp2
          refine refRet (set10 HB3.out rfl _ _ _ _ _ _ _ _ _ _) rfl rfl rfl (ret_zero HN.out ?_)
          exact below10 HW3.out (Nat.le_refl _) _ _ _ _ _ _ _ _ _ _
        · have HE:Hid (packE (parseF b)=0):=by show _=_;simp [packE,hok]
          have HS:Hid (packS (parseF b)=(parseF b).bytes):=by show _=_;simp [packS,hok]
          rw [HE.out,HS.out]
          by_cases heq:(parseF b).bytes=b
          · have HY:Hid (unpackR b=some (parseF b)):=by show _=_;rw [HU.out,HT.out,hok,heq];simp
            rw [heq]
            go_wp2
            refine refRet (set10 HB3.out rfl _ _ _ _ _ _ _ _ _ _) rfl rfl rfl ⟨none,0,?_,?_,?_⟩
            · rw [(un_yes HY.out).1,(un_yes HY.out).2];exact congrArg (fun v=>Ending.returned (.tuple #[v,.int .i64 0])) HV.out
            · rw [(un_yes HY.out).1,HLS.out];exact ⟨fun j hj=>absurd hj (by simp),.inl ⟨rfl,rfl,rfl⟩,fun k e=>by cases e⟩
            · exact below10 HW3.out (Nat.le_refl _) _ _ _ _ _ _ _ _ _ _
          · have HN:Hid (unpackR b=none):=by show _=_;rw [HU.out,HT.out,hok];simp [heq]
            have hne:((parseF b).bytes == b)=false:=beq_eq_false_iff_ne.2 heq
            go_wp2
            refine refRet (set10 HB3.out rfl _ _ _ _ _ _ _ _ _ _) rfl rfl rfl (ret_zero HN.out ?_)
            exact below10 HW3.out (Nat.le_refl _) _ _ _ _ _ _ _ _ _ _
theorem refUnpack_any (b:List UInt8) (w:World) (hn:b.length≤100000000):Calls Tryz.prog 97 #[.string ⟨b.toArray⟩] w (RetFrame w b):=by
  by_cases h:b.length < 8∨kindOf b < 1∨9 < kindOf b
  · exact refUnpack_short b w hn h
  · exact refUnpack_long b w hn (by omega) (by omega) (by omega)
end
section
structure Mm where
  view:Int
  last:Int
  ls:List Ln
def Mm.zero:Mm:=⟨0,0,[]⟩
def candM (m:Mm) (body:List UInt8):Option Mm :=
  if body.length=0 then none
  else if (body.getD 0 0).toNat=1 then (if tlOk (body.drop 1) && (tlRest (body.drop 1)).isEmpty then some ⟨m.view,m.last,m.ls++[tlLine (body.drop 1)]⟩ else none)
  else if (body.getD 0 0).toNat=2 then (if body.length=2 then some ⟨(body.getD 1 0).toNat,m.last,m.ls⟩ else none)
  else if (body.getD 0 0).toNat=3 then (if body.length < 2 then none else if tsOk (body.drop 2) && (tsRest (body.drop 2)).isEmpty then some ⟨(body.getD 1 0).toNat,(body.getD 1 0).toNat,tsLines (body.drop 2)⟩ else none)
  else none
def okM (m:Mm):Bool:=decide (m.last≤m.view) && decide (m.view≤100) && linesOk m.ls
def doesM (m:Mm) (body:List UInt8):Option Mm:=(candM m body).bind fun n=>if okM n then some n else none
def recOf (b:List UInt8):Option (List UInt8 × Nat) :=
  if b.length=0 then none else if b.length < (b.getD 0 0).toNat+3 then none else if stripOk (b.take ((b.getD 0 0).toNat+3)) then some ((b.drop 1).take (b.getD 0 0).toNat,(b.getD 0 0).toNat+3) else none
def readF (s:List UInt8):Nat→Mm→Nat→Mm × Nat
  | 0,m,at_=>(m,at_)
  | f+1,m,at_=>match recOf (s.drop at_) with
    | none=>(m,at_)
    | some p=>match doesM m p.1 with
      | none=>(m,at_)
      | some m'=>readF s f m' (at_+p.2)
def readD (s:List UInt8):Mm × Nat:=readF s (s.length+1) Mm.zero 0
theorem readF_stop {s:List UInt8} {m:Mm} {at_:Nat} (h:recOf (s.drop at_)=none) (f:Nat):readF s f m at_=(m,at_):=by
  cases f with
  | zero=>rfl
  | succ f=>unfold readF;rw [h]
theorem readF_no {s:List UInt8} {m:Mm} {at_:Nat} {p:List UInt8 × Nat} (h:recOf (s.drop at_)=some p) (hd:doesM m p.1=none) (f:Nat):readF s f m at_=(m,at_):=by
  cases f with
  | zero=>rfl
  | succ f=>unfold readF;rw [h];simp only;rw [hd]
theorem recOf_len {b:List UInt8} {p:List UInt8 × Nat} (h:recOf b=some p):3≤p.2∧p.2≤b.length:=by
  unfold recOf at h
  split at h
  · cases h
  · split at h
    · cases h
    · split at h
      · cases h;dsimp only;omega
      · cases h
theorem readF_step {s:List UInt8} {m m':Mm} {at_ f:Nat} {p:List UInt8 × Nat} (hf:s.length+1≤f+at_) (h:recOf (s.drop at_)=some p) (hd:doesM m p.1=some m') :
    ∃ f',readF s f m at_=readF s f' m' (at_+p.2)∧s.length+1≤f'+(at_+p.2):=by
  have hl:=recOf_len h
  rw [List.length_drop] at hl
  cases f with
  | zero=>omega
  | succ f =>
    refine ⟨f,?_,by omega⟩
    conv=>lhs;unfold readF
    rw [h];simp only;rw [hd]
theorem readF_le {s:List UInt8}:∀ (f:Nat) (m:Mm) (at_:Nat),at_≤s.length→(readF s f m at_).2≤s.length:=by
  intro f
  induction f with
  | zero=>intro m at_ h;exact h
  | succ f ih =>
    intro m at_ h
    unfold readF
    split
    · exact h
    · rename_i p hp
      have hl:=recOf_len hp
      rw [List.length_drop] at hl
      split
      · exact h
      · exact ih _ _ (by omega)
theorem readD_le (s:List UInt8):(readD s).2≤s.length:=readF_le _ _ _ (Nat.zero_le _)
theorem doesM_ok {m m':Mm} {b:List UInt8} (h:doesM m b=some m'):okM m'=true:=by
  unfold doesM at h
  cases e:candM m b with
  | none=>rw [e] at h;cases h
  | some n =>
    rw [e] at h
    simp only [Option.bind_some] at h
    split at h
    · cases h;assumption
    · cases h
theorem okM_len {m:Mm} (h:okM m=true):m.ls.length≤20:=by
  unfold okM at h
  simp only [Bool.and_eq_true] at h
  exact (linesOk_all h.2).1
theorem byteOf_in {n:Int} (h0:0≤n) (h:n < 256):((byteOf n).toNat:Int)=n:=by
  unfold byteOf
  rw [UInt8.toNat_ofNat'];omega
theorem takeLine_pack (l:Ln) (h:l.ok=true) (r:List UInt8):takeLine (lineBytes l++r)=some (l,r):=by
  obtain ⟨c,t,s⟩:=l
  unfold Ln.ok at h
  simp only [Bool.and_eq_true,decide_eq_true_eq] at h
  obtain ⟨⟨⟨⟨h1,h2⟩,h3⟩,h4⟩,h5⟩:=h
  have e1:=byteOf_in (n:=c) (by omega) (by omega)
  have e2:=byteOf_in (n:=t) (by omega) (by omega)
  have e3:=byteOf_in (n:=(s.length:Int)) (by omega) (by omega)
  have e4:(byteOf (s.length:Int)).toNat=s.length:=by omega
  unfold takeLine lineBytes
  simp only [List.cons_append,List.nil_append,List.length_cons,List.length_append,List.getD_cons_succ,List.getD_cons_zero,e1,e2,e4]
  rw [if_neg (by omega),if_neg (by omega)]
  have e5:3+s.length=s.length+1+1+1:=by omega
  rw [e5]
  simp
theorem takeN_pack:∀ (k:Nat) (ls:List Ln),ls.length=k→(∀ l ∈ ls,l.ok=true)→∀ r,takeN (manyBytes ls++r) k=some (ls,r):=by
  intro k
  induction k with
  | zero=>intro ls e _ r;cases ls with
    | nil=>rfl
    | cons _ _=>simp at e
  | succ k ih =>
    intro ls e hok r
    have hne:ls≠[]:=fun h=>by rw [h] at e;simp at e
    have es:=List.dropLast_concat_getLast hne
    generalize ls.dropLast=l0 at es
    generalize ls.getLast hne=x at es
    subst es
    have hl0:l0.length=k:=by simpa using e
    have h:=ih l0 hl0 (fun l hl=>hok l (by simp [hl])) (lineBytes x++r)
    rw [manyBytes_snoc,List.append_assoc,takeN_step _ _ _ _ h,takeLine_pack x (hok x (by simp))]
    rfl
theorem takeLines_pack (ls:List Ln) (h20:ls.length≤20) (hok:∀ l ∈ ls,l.ok=true):takeLines (linesBytes ls)=some (ls,[]):=by
  have e3:=byteOf_in (n:=(ls.length:Int)) (by omega) (by omega)
  have e4:(byteOf (ls.length:Int)).toNat=ls.length:=by omega
  unfold takeLines linesBytes
  rw [if_neg (by simp)]
  simp only [List.drop_succ_cons,List.drop_zero,List.getD_cons_zero,e4]
  have:=takeN_pack ls.length ls rfl hok []
  rw [List.append_nil] at this
  exact this
def ConfOk (kp me pa:Int):Prop:=(kp=3∨kp=5)∧0≤me∧me < kp∧2≤pa∧pa≤20
structure LK where
  kp:Int
  me:Int
  pa:Int
  d:List UInt8
  m:Mm
  arm:Int
  lost:List UInt8
  agreed:Nat
  hs:Nat→Int
def LK.dead (s:LK):Bool:=!s.lost.isEmpty
def LK.opened (kp me pa:Int) (d:List UInt8) (m:Mm):LK:=⟨kp,me,pa,d,m,0,[],0,fun _=>0⟩
def LK.image (s:LK) (keep:Int):List UInt8:=s.d++s.lost.take keep.toNat
def LK.mv (s:LK):Mm:=if s.dead then Mm.zero else s.m
def LK.av (s:LK):Nat:=if s.dead then 0 else s.agreed
def LK.ok (s:LK):Prop:=s.d.length+s.lost.length≤9900000∧ConfOk s.kp s.me s.pa∧s.agreed≤s.m.ls.length∧s.m.ls.length≤20
theorem LK.image_len (s:LK) (keep:Int):(s.image keep).length≤s.d.length+s.lost.length:=by
  unfold LK.image
  rw [List.length_append,List.length_take]
  omega
theorem LK.av_le {s:LK} (h:s.ok):s.av≤s.mv.ls.length:=by
  unfold LK.av LK.mv
  cases s.dead
  · exact h.2.2.1
  · simp
theorem LK.mv_len {s:LK} (h:s.ok):s.mv.ls.length≤20:=by
  unfold LK.mv
  cases s.dead
  · exact h.2.2.2
  · simp [Mm.zero]
end
end Go.Proofs.YtolififimldmlaaGreat
