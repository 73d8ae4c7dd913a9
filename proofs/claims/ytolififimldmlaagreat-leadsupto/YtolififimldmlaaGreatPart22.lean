import Derived.Test.YtolififimldmlaaGreatPart21
import Derived.Test.YtolififimldmlaaGreatPart17
set_option linter.unusedVariables false
set_option linter.unusedSimpArgs false
set_option maxRecDepth 100000
set_option maxHeartbeats 16000000
namespace Go.Proofs.YtolififimldmlaaGreat
section
open Go.RowKit
attribute [local go_sem ↓] Go.wp_at_zero Go.wp_at_succ
theorem rightRec_go (m:Mm) (a:Option Addr) (cap:Nat) (w:World) (hl:LinesAt w a m.ls) (hn:m.ls.length≤100000000) (hcap:m.ls.length≤cap):Calls Tryz.prog 131 #[m.val a cap] w fun e w'=>e=.returned (.bool (okM m))∧Below w.heap.size w w':=by
  obtain ⟨view,last,ls⟩:=m
  have HL:=hid hl
  dsimp only at HL hn hcap
  clear hl
  have HV:Hid ((Mm.mk view last ls).val a cap=.agg #[.int .i64 view,.int .i64 last,.slice a ls.length cap]):=rfl
  rw [HV.out]
  have HO:Hid (okM ⟨view,last,ls⟩=(decide (last≤view) && decide (view≤100) && linesOk ls)):=rfl
  have HR:=hid (fun x (h:LinesAt x a ls)=>right_lines a cap ls x h hn hcap)
  unfold sla at HR
  by_cases h1:last≤view
  · by_cases h2:view≤100
    · go_enter Tryz.func131,Tryz.ntmps131
      go_wp2_with fail
      refine (HR.out _ (HL.out.alloc _)).mono ?_
      rintro e w2 ⟨rfl,hb2⟩
      have HB2:=hid hb2
      clear hb2
      go_wp2
      go_ret
      exact ⟨ret_bool (by rw [HO.out];simp [h1,h2]),((Below.refl _ _).alloc (Nat.le_refl _) _).trans (HB2.out.mono (by simp))⟩
    · go_enter Tryz.func131,Tryz.ntmps131
      go_wp2
      go_ret
      exact ⟨ret_bool (by rw [HO.out,decide_eq_false (show ¬ view≤100 by omega)];simp),(Below.refl _ _).alloc (Nat.le_refl _) _⟩
  · go_enter Tryz.func131,Tryz.ntmps131
    go_wp2
    go_ret
    exact ⟨ret_bool (by rw [HO.out,decide_eq_false (show ¬ last≤view by omega)];simp),(Below.refl _ _).alloc (Nat.le_refl _) _⟩
theorem cand_len {m nn:Mm} {b:List UInt8} (hm:m.ls.length≤20) (h:candM m b=some nn):nn.ls.length≤100000000:=by
  unfold candM at h
  split at h
  · cases h
  · split at h
    · split at h
      · cases h;simp;omega
      · cases h
    · split at h
      · split at h
        · cases h;show m.ls.length≤_;omega
        · cases h
      · split at h
        · split at h
          · cases h
          · split at h
            · cases h
              have:=tsLines_len (b.drop 2)
              show (tsLines (b.drop 2)).length≤_
              omega
            · cases h
        · cases h
def ReadP (w:World) (s:List UInt8) (e:Ending) (w':World):Prop :=
  ∃ g c,e=.returned (.tuple #[(readD s).1.val (g.map fun k=>(⟨k,0,none⟩:Addr)) c,.int .i64 (readD s).2])∧OwnLines w w' g c (readD s).1.ls∧Below w.heap.size w w'
theorem readPRet {Q:Ending→World→Prop} {a:Act} {W:World} {B:Nat} {fz:Nat × Nat} {v0 v1 v2:Value} {er:Int} (hB:W.heap[B]?=some (.cells #[v0,v1,v2] 94 fz))
    (ht:a.tmps[2]?=some (.pointer (some ⟨B,0,none⟩))) (he:a.tmps[3]?=some (.int .i64 er)) (hd:a.defers=[]) (hq:Q (.returned (.tuple #[.agg #[v0,v1,v2],.int .i64 er])) W):bodyPost Tryz.prog Tryz.f84 Q Exit.ret a W:=by
  have c0:W.cell? ⟨B,0,none⟩=some v0:=(cell_of_heap hB 0).trans rfl
  have c1:W.cell? ⟨B,1,none⟩=some v1:=(cell_of_heap hB 1).trans rfl
  have c2:W.cell? ⟨B,2,none⟩=some v2:=(cell_of_heap hB 2).trans rfl
  exact bodyPost_ret (v:=.tuple #[.agg #[v0,v1,v2],.int .i64 er]) (by simp [results,Tryz.results84,go_sem,ht,he,c0,c1,c2]) hd hq
structure PAt (w:World) (s:List UInt8) (R:Nat) (wr:World) (k:Nat) (m:Mm) (g:Option Nat) (c f:Nat):Prop where
  at_:readD s=readF s f m k
  fuel:s.length+1≤f+k
  box:MBox R 94 (.int .i64 m.view) (.int .i64 m.last) (.slice (g.map fun x=>⟨x,0,none⟩) m.ls.length c) wr
  own:OwnLines w wr g c m.ls
  bel:Below w.heap.size w wr
  few:m.ls.length≤20
  nR:g≠some R
theorem readP_go (g0 o n cap:Nat) (s:List UInt8) (w:World) (hb:BytesIn w (some ⟨g0,o,none⟩) s) (hbl:s.length=n) (hn:s.length≤10000000) (hcap:s.length≤cap):Calls Tryz.prog 84 #[.slice (some ⟨g0,o,none⟩) n cap] w (ReadP w s):=by
  have HB:=hid hb
  have HBL:=hid hbl
  clear hb
  go_enter Tryz.func84,Tryz.ntmps84
  go_wp2
  have HI0:Hid (PAt w s w.heap.size (w.alloc (.cells #[.int .i64 0,.int .i64 0,.slice none 0 0] 94)) 0 Mm.zero none 0 (s.length+1)) :=
    ⟨rfl,by omega,heap_alloc_new w _,OwnLines.none_ _ _,(Below.refl _ _).alloc (Nat.le_refl _) _,(by show 0≤20;omega),fun e=>(by cases e)⟩
  go_loopw [3] (fun av wr=>∃ (k:Nat) (m:Mm) (g:Option Nat) (c f:Nat),k≤n∧av=.int .i64 k∧Hid (PAt w s w.heap.size wr k m g c f)) (fun av _=>n - (intOf av).toNat)
  case atStart=>exact ⟨0,Mm.zero,none,0,s.length+1,Nat.zero_le _,rfl,HI0.out⟩
  case round =>
    obtain ⟨k,m,g,c,f,hk,rfl,HI⟩:=hrel
    clear HI0
    obtain ⟨b0,b1,b2,fb⟩:=mbox_cells HI.out.box
    have hki:(0:Int)≤(k:Int):=by omega
    have hkn:(k:Int)≤(n:Int):=by omega
    have hkc:(k:Int)≤(cap:Int):=by omega
    have HDL:Hid ((s.drop k).length=n - k):=by show _=_;rw [List.length_drop];omega
    by_cases hck:cap=k
    · have hnk:n=k:=by omega
      have HE:Hid (readD s=(m,k)):=by
        show _=_
        rw [HI.out.at_]
        exact readF_stop (by unfold recOf;rw [if_pos (by have:=HDL.out;omega)]) f
      subst hck
      subst hnk
      go_wp2_with fail
      refine (first_go (some ⟨g0,o,none⟩) 0 0 [] w _ (BytesIn.nil _ _) HI.out.bel rfl (by simp) (by simp)).mono ?_
      rintro e w1 ⟨hw1,hdd⟩
      rw [hw1]
      clear hw1 w1
      rcases hdd with ⟨_,rfl⟩ | ⟨inner,cnt,a',cap',hrec,_⟩
      · go_wp2
        refine readPRet (mset2 (mset1 (mset0 HI.out.box _) _) _) rfl rfl rfl ⟨g,c,?_,?_,?_⟩
        · rw [HE.out];rfl
        · rw [HE.out];exact ((HI.out.own.setOther w.heap.size 0 _ HI.out.nR).setOther w.heap.size 1 _ HI.out.nR).setOther w.heap.size 2 _ HI.out.nR
        · exact ((HI.out.bel.setCell (p:=⟨w.heap.size,0,none⟩) (Nat.le_refl _) _).setCell (p:=⟨w.heap.size,1,none⟩) (Nat.le_refl _) _).setCell (p:=⟨w.heap.size,2,none⟩) (Nat.le_refl _) _
      · exact absurd hrec (by simp [recOf])
    · have HBD:Hid (BytesIn w (some ⟨g0,o+k,none⟩) (s.drop k)):=HB.out.drop k
      go_wp2_with fail
      refine (first_go (some ⟨g0,o+k,none⟩) (n - k) (cap - k) (s.drop k) w _ HBD.out HI.out.bel HDL.out (by have:=HDL.out;omega) (by have:=HDL.out;omega)).mono ?_
      rintro e w1 ⟨hw1,hdd⟩
      rw [hw1]
      clear hw1 w1
      rcases hdd with ⟨hno,rfl⟩ | ⟨inner,cnt,a',cap',hrec,rfl,hbi,hic,hi256⟩
      · have HE:Hid (readD s=(m,k)):=by show _=_;rw [HI.out.at_];exact readF_stop hno f
        clear hno
        go_wp2
        refine readPRet (mset2 (mset1 (mset0 HI.out.box _) _) _) rfl rfl rfl ⟨g,c,?_,?_,?_⟩
        · rw [HE.out];rfl
        · rw [HE.out];exact ((HI.out.own.setOther w.heap.size 0 _ HI.out.nR).setOther w.heap.size 1 _ HI.out.nR).setOther w.heap.size 2 _ HI.out.nR
        · exact ((HI.out.bel.setCell (p:=⟨w.heap.size,0,none⟩) (Nat.le_refl _) _).setCell (p:=⟨w.heap.size,1,none⟩) (Nat.le_refl _) _).setCell (p:=⟨w.heap.size,2,none⟩) (Nat.le_refl _) _
      · have HREC:=hid hrec
        have HBI:=hid hbi
        have HIC:=hid hic
        have HI256:=hid hi256
        have hcl:=recOf_len hrec
        have HCL:=hid hcl
        dsimp only at hcl
        have hcl2:3≤cnt∧cnt≤n - k:=by have:=HDL.out;omega
        clear hrec hbi hic hi256 hcl
        have HMV:Hid (m.val (g.map fun x=>(⟨x,0,none⟩:Addr)) c=.agg #[.int .i64 m.view,.int .i64 m.last,.slice (g.map fun x=>⟨x,0,none⟩) m.ls.length c]):=rfl
        go_wp2_with fail
        rw [← HMV.out]
        refine (after_go m g c a' inner.length cap' inner w w _ HI.out.own HI.out.few HI.out.bel.size HBI.out HI.out.bel rfl (by have:=HI256.out;omega) HIC.out).mono ?_
        rintro e w2 ⟨ho2,ht2,hdd⟩
        have O2:=hid ho2
        have T2:=hid ht2
        have B2:=hid (HI.out.box.touch ht2 HI.out.nR)
        have W2:Hid (Below w.heap.size w w2):=HI.out.bel.trans (ht2.below HI.out.bel.size (fun k _ e=>HI.out.own.new k e))
        clear ho2 ht2 b0 b1 b2 fb
        obtain ⟨b0,b1,b2,fb⟩:=mbox_cells B2.out
        have hRl:w.heap.size < w2.heap.size:=heap_lt B2.out
        rcases hdd with ⟨hcd,rfl⟩ | ⟨nn,g2,c2,hcd,rfl,hon,_⟩
        · have HE:Hid (readD s=(m,k)):=by
            show _=_
            rw [HI.out.at_]
            exact readF_no HREC.out (by unfold doesM;dsimp only;rw [hcd];rfl) f
          clear hcd
          go_wp2
          refine readPRet (alloc_keep1 (mset2 (mset1 (mset0 B2.out _) _) _)) rfl rfl rfl ⟨g,c,?_,?_,?_⟩
          · rw [HE.out];rfl
          · rw [HE.out];exact (((O2.out.setOther w.heap.size 0 _ HI.out.nR).setOther w.heap.size 1 _ HI.out.nR).setOther w.heap.size 2 _ HI.out.nR).below ((Below.refl _ _).alloc (Nat.le_refl _) _)
          · exact (((W2.out.setCell (p:=⟨w.heap.size,0,none⟩) (Nat.le_refl _) _).setCell (p:=⟨w.heap.size,1,none⟩) (Nat.le_refl _) _).setCell (p:=⟨w.heap.size,2,none⟩) (Nat.le_refl _) _).alloc (by simp only [size_setCell];exact W2.out.size) _
        · have HCD:=hid hcd
          have HON:=hid hon
          have HNL:Hid (nn.ls.length≤100000000):=cand_len HI.out.few HCD.out
          clear hcd hon
          have HMV2:Hid (nn.val (g2.map fun x=>(⟨x,0,none⟩:Addr)) c2=.agg #[.int .i64 nn.view,.int .i64 nn.last,.slice (g2.map fun x=>⟨x,0,none⟩) nn.ls.length c2]):=rfl
          rw [HMV2.out]
          go_wp2_with fail
          rw [← HMV2.out]
          refine (rightRec_go nn (g2.map fun x=>(⟨x,0,none⟩:Addr)) c2 _ (by exact HON.out.at_.below ((Below.refl _ _).alloc (Nat.le_refl _) _)) HNL.out HON.out.cap).mono ?_
          rintro e w3 ⟨rfl,hb3⟩
          have b23:Below w2.heap.size w2 w3:=((Below.refl _ w2).alloc (Nat.le_refl _) _).trans (hb3.mono (by simp))
          have B3:=hid (B2.out.below b23)
          have O3:=hid (O2.out.below b23)
          have ON3:=hid (HON.out.below b23)
          have W3:=hid (W2.out.trans (b23.mono W2.out.size))
          have T3:Hid (MBox w2.heap.size 94 (.int .i64 nn.view) (.int .i64 nn.last) (.slice (g2.map fun x=>⟨x,0,none⟩) nn.ls.length c2) w3):=MBox.below (heap_alloc_new w2 _) hb3
          clear hb3 b23 b0 b1 b2 fb
          obtain ⟨b0,b1,b2,fb⟩:=mbox_cells B3.out
          obtain ⟨t0,t1,t2,ft⟩:=mbox_cells T3.out
          cases hok:okM nn
          · have HE:Hid (readD s=(m,k)):=by
              show _=_
              rw [HI.out.at_]
              exact readF_no HREC.out (by unfold doesM;dsimp only;rw [HCD.out];simp [hok]) f
            clear hok
            go_wp2
            refine readPRet (mset2 (mset1 (mset0 B3.out _) _) _) rfl rfl rfl ⟨g,c,?_,?_,?_⟩
            · rw [HE.out];rfl
            · rw [HE.out];exact ((O3.out.setOther w.heap.size 0 _ HI.out.nR).setOther w.heap.size 1 _ HI.out.nR).setOther w.heap.size 2 _ HI.out.nR
            · exact ((W3.out.setCell (p:=⟨w.heap.size,0,none⟩) (Nat.le_refl _) _).setCell (p:=⟨w.heap.size,1,none⟩) (Nat.le_refl _) _).setCell (p:=⟨w.heap.size,2,none⟩) (Nat.le_refl _) _
          · have HOKM:=hid hok
            have HD:Hid (doesM m inner=some nn):=by show _=_;unfold doesM;rw [HCD.out];simp [hok]
            obtain ⟨f',hf1,hf2⟩:=readF_step (p:=(inner,cnt)) HI.out.fuel HREC.out HD.out
            have HF1:=hid (HI.out.at_.trans hf1)
            have HF2:=hid hf2
            have hg2R:Hid (g2≠some w.heap.size):=fun e=>ON3.out.notBox e B3.out
            have wkc:IntKind.i64.wrap ((k:Int)+(cnt:Int))=((k+cnt:Nat):Int):=by rw [IntWalk.i64_left,IntWalk.wrap64_in _ (by omega)];omega
            clear hok hf1 hf2
            go_wp2
            go_roundw
            case rel=>exact ⟨k+cnt,nn,g2,c2,f',by omega,by go_num,⟨HF1.out,HF2.out,mset2 (mset1 (mset0 B3.out _) _) _,((ON3.out.setOther w.heap.size 0 _ hg2R.out).setOther w.heap.size 1 _ hg2R.out).setOther w.heap.size 2 _ hg2R.out,((W3.out.setCell (p:=⟨w.heap.size,0,none⟩) (Nat.le_refl _) _).setCell (p:=⟨w.heap.size,1,none⟩) (Nat.le_refl _) _).setCell (p:=⟨w.heap.size,2,none⟩) (Nat.le_refl _) _,okM_len HOKM.out,hg2R.out⟩⟩
            case measure=>simp [intOf];omega
theorem step_appN {P:Program} (w:World) {ops:Array Oper} {o:Oper} {a:Act} {K:Act→World→Prop} {Q:Exit→Act→World→Prop} {E:Prop} (hgd:o.guard=none) (s y:Operand) (t tx:TypeId)
    (ho:o.op=.call { callee:=.builtin .append,args:=#[s,y],argTypes:=#[t,tx] })
    (e:TypeId) (i:TypeInfo) (z:Value) (size bytes:Nat) (ht:P.underlying t=some (.slice e)) (hi:P.info? e=some i) (hz:i.zero=some z)
    (hsize:i.size=size) (hby:i.bytes=bytes) (hzs:z.cells.size=size)
    (hq:a.eval s=.slice none 0 0) (x:Value) (hx:a.eval y=x) (m:Nat) (news:List Value) (hs:Src P size tx x m news w)
    (hbytes:m * bytes≤140737488355328) (h63:m≤140737488355328)
    (h:∀ b c w',NilPost w w' e size m news b c→K (a.put o.dst (sl b m c)) w') :
    if Region.wanted o (yielded ops a.tmps)=true then Oper.wp P o a w K Q else E:=by
  have hw:Region.wanted o (yielded ops a.tmps)=true:=by simp [Region.wanted,hgd]
  rw [if_pos hw]
  obtain ⟨b,c,w',hr,h2⟩:=run_appN (P:=P) w t tx o.type e i z size bytes ht hi hz hsize hby hzs x m news hs hbytes h63
  unfold Oper.wp execOp
  simp only [ho,resolve,invoke,builtin,Sem.run_bind,Sem.run_pure,Result.andThen_ok,List.map_toArray,List.map_cons,List.map_nil,hq,hx,hr]
  exact h b c w' h2
theorem bytes_src (a:Option Addr) (n cap:Nat) (l:List UInt8) (w:World) (h:BytesIn w a l) (e:l.length=n):Src Tryz.prog 1 31 (.slice a n cap) n (u8cells l) w:=by
  subst e
  cases l with
  | nil =>
    cases a with
    | none=>exact Src.ofNil w Tryz.underlying31 cap
    | some p=>exact Src.ofSlice w Tryz.underlying31 p 0 cap [] rfl (fun j u hu=>by simp at hu) (fun u hu=>by cases hu)
  | cons x xs =>
    obtain ⟨g,o,rfl,_⟩:=h 0 (by simp)
    refine Src.ofSlice w Tryz.underlying31 ⟨g,o,none⟩ _ cap (u8cells (x :: xs)) (by rw [u8cells_len,Nat.mul_one]) (fun j u hu=>?_) (u8cells_one _)
    have hj:j < (x :: xs).length:=by
      rcases Nat.lt_or_ge j (x :: xs).length with h | h
      · exact h
      · rw [List.getElem?_eq_none (by rw [u8cells_len];exact h)] at hu;cases hu
    rw [u8cells_at _ _ hj] at hu
    cases hu
    obtain ⟨g',o',e,hc⟩:=h j hj
    cases e
    rw [addr_add];exact hc
theorem NilPost.bytes {w w':World} {l:List UInt8} {n:Nat} {b:Option Nat} {c:Nat} (h:NilPost w w' 5 1 n (u8cells l) b c) (e:l.length=n):BytesAt w' b l∧OwnRow w' 5 1 b l.length c:=by
  subst e
  refine ⟨fun j hj=>?_,h.own⟩
  obtain ⟨g,e,hc⟩:=h.new j (by omega)
  exact ⟨g,e,hc.trans (u8cells_at l j hj)⟩
theorem BytesAt.touch1 {w:World} {g:Option Nat} {l:List UInt8} (h:BytesAt w g l) (B j:Nat) (v:Value) (hn:g≠some B):BytesAt (w.setCell ⟨B,j,none⟩ v) g l :=
  h.touch (T:=fun k=>k=B) ((Touch.refl (fun k=>k=B) w).setCell (p:=⟨B,j,none⟩) (fun _=>rfl) v) (fun k e e2=>hn (by rw [e,e2]))
theorem set6 {w:World} {B:Nat} {cur:Array Value} {e:TypeId} {f:Nat × Nat} (h:w.heap[B]?=some (.cells cur e f)) (hs:cur.size=6) (v0 v1 v2 v3 v4 v5:Value) :
    ((((((w.setCell ⟨B,0,none⟩ v0).setCell ⟨B,1,none⟩ v1).setCell ⟨B,2,none⟩ v2).setCell ⟨B,3,none⟩ v3).setCell ⟨B,4,none⟩ v4).setCell ⟨B,5,none⟩ v5).heap[B]?=some (.cells #[v0,v1,v2,v3,v4,v5] e f):=by
  match cur,hs with
  | ⟨[a0,a1,a2,a3,a4,a5]⟩,_ =>
    have hh:=heap_setCell (heap_setCell (heap_setCell (heap_setCell (heap_setCell (heap_setCell h 0 v0) 1 v1) 2 v2) 3 v3) 4 v4) 5 v5
    simp only [List.setIfInBounds_toArray,List.set_cons_zero,List.set_cons_succ] at hh
    exact hh
def OpenedD (w:World) (s:List UInt8) (e:Ending) (w':World):Prop :=
  ∃ gd cd gl cl,e=.returned (.agg #[sl gd (readD s).2 cd,.int .i64 (readD s).1.view,.int .i64 (readD s).1.last,sl gl (readD s).1.ls.length cl,.int .i64 0,.slice none 0 0]) ∧
    BytesAt w' gd (s.take (readD s).2)∧OwnRow w' 5 1 gd (readD s).2 cd∧(∀ k,gd=some k→w.heap.size≤k)∧OwnLines w w' gl cl (readD s).1.ls∧Below w.heap.size w w'
theorem openDRet {Q:Ending→World→Prop} {a:Act} {W:World} {B:Nat} {fz:Nat × Nat} {v0 v1 v2 v3 v4 v5:Value} (hB:W.heap[B]?=some (.cells #[v0,v1,v2,v3,v4,v5] 96 fz))
    (ht:a.tmps[2]?=some (.pointer (some ⟨B,0,none⟩))) (hd:a.defers=[]) (hq:Q (.returned (.agg #[v0,v1,v2,v3,v4,v5])) W):bodyPost Tryz.prog Tryz.f46 Q Exit.ret a W:=by
  have c0:W.cell? ⟨B,0,none⟩=some v0:=(cell_of_heap hB 0).trans rfl
  have c1:W.cell? ⟨B,1,none⟩=some v1:=(cell_of_heap hB 1).trans rfl
  have c2:W.cell? ⟨B,2,none⟩=some v2:=(cell_of_heap hB 2).trans rfl
  have c3:W.cell? ⟨B,3,none⟩=some v3:=(cell_of_heap hB 3).trans rfl
  have c4:W.cell? ⟨B,4,none⟩=some v4:=(cell_of_heap hB 4).trans rfl
  have c5:W.cell? ⟨B,5,none⟩=some v5:=(cell_of_heap hB 5).trans rfl
  exact bodyPost_ret (v:=.agg #[v0,v1,v2,v3,v4,v5]) (by simp [results,Tryz.results46,go_sem,ht,c0,c1,c2,c3,c4,c5]) hd hq
theorem openD_go (g0 o n cap:Nat) (s:List UInt8) (w:World) (hb:BytesIn w (some ⟨g0,o,none⟩) s) (hbl:s.length=n) (hn:s.length≤10000000) (hcap:s.length≤cap):Calls Tryz.prog 46 #[.slice (some ⟨g0,o,none⟩) n cap] w (OpenedD w s):=by
  have HB:=hid hb
  clear hb
  obtain ⟨ib,hib,hib0,hib1,hib2⟩:=info_parts Tryz.info5
  have hle:=readD_le s
  go_enter Tryz.func46,Tryz.ntmps46
  go_wp2_with fail
  refine (readP_go g0 o n cap s _ (HB.out.below ((Below.refl _ _).alloc (Nat.le_refl _) _)) hbl hn hcap).mono ?_
  rintro e w2 ⟨gl,cl,rfl,hol,hb2⟩
  have HX:Hid (∀ gd cd w',BytesAt w' gd (s.take (readD s).2)→OwnRow w' 5 1 gd (readD s).2 cd→(∀ k,gd=some k→w.heap.size≤k)→OwnLines w w' gl cl (readD s).1.ls→Below w.heap.size w w'→OpenedD w s (.returned (.agg #[.slice (gd.map fun k=>⟨k,0,none⟩) (readD s).2 cd,.int .i64 (readD s).1.view,.int .i64 (readD s).1.last,.slice (gl.map fun k=>⟨k,0,none⟩) (readD s).1.ls.length cl,.int .i64 0,.slice none 0 0])) w') :=
    fun gd cd w' h1 h2 h3 h4 h5=>⟨gd,cd,gl,cl,rfl,h1,h2,h3,h4,h5⟩
  have HTL:Hid ((s.take (readD s).2).length=(readD s).2):=by show _=_;rw [List.length_take];omega
  have HTB:Hid (BytesIn w (some ⟨g0,o,none⟩) (s.take (readD s).2)):=HB.out.take _
  have W2:Hid (Below w.heap.size w w2):=((Below.refl _ w).alloc (Nat.le_refl _) _).trans (hb2.mono (by simp))
  have HOL:=hid (hol.base (u:=w) (by simp))
  have hRb:w2.heap[w.heap.size]?=some (.cells #[.slice none 0 0,.int .i64 0,.int .i64 0,.slice none 0 0,.int .i64 0,.slice none 0 0] 96 (0,0)):=by
    rw [hb2.block _ (by simp)];exact heap_alloc_new w _
  have hglR:Hid (gl≠some w.heap.size):=fun e=>by have:=hol.new _ e;simp at this;omega
  clear hol hb2
  generalize (readD s).1=m at *
  generalize (readD s).2=k at *
  generalize s.take k=d at *
  obtain ⟨view,last,ls⟩:=m
  dsimp only at *
  have HMV:Hid ((Mm.mk view last ls).val (gl.map fun k=>(⟨k,0,none⟩:Addr)) cl=.agg #[.int .i64 view,.int .i64 last,.slice (gl.map fun k=>⟨k,0,none⟩) ls.length cl]):=rfl
  rw [HMV.out]
  have HRb:=hid hRb
  have hRl:w.heap.size < w2.heap.size:=heap_lt hRb
  have lk:(k:Int)≤(cap:Int):=by omega
  have lk0:(0:Int)≤(k:Int):=by omega
  clear hRb
  go_wp2
  generalize hY:w2.alloc (.cells #[.int .i64 view,.int .i64 last,.slice (gl.map fun k=>⟨k,0,none⟩) ls.length cl] 94)=Y
  have sY:Y.heap.size=w2.heap.size+1:=by rw [← hY];simp
  have b2Y:Below w2.heap.size w2 Y:=by rw [← hY];exact (Below.refl _ _).alloc (Nat.le_refl _) _
  have HTY:Hid (MBox w2.heap.size 94 (.int .i64 view) (.int .i64 last) (.slice (gl.map fun k=>⟨k,0,none⟩) ls.length cl) Y):=by show MBox _ _ _ _ _ _;rw [← hY];exact heap_alloc_new w2 _
  have HRY:Hid (Y.heap[w.heap.size]?=some (.cells #[.slice none 0 0,.int .i64 0,.int .i64 0,.slice none 0 0,.int .i64 0,.slice none 0 0] 96 (0,0))):=by show _=_;rw [b2Y.block _ hRl];exact HRb.out
  have BY:Hid (Below w.heap.size w Y):=W2.out.trans (b2Y.mono W2.out.size)
  have HOY:Hid (OwnLines w Y gl cl ls):=HOL.out.below b2Y
  have HTBY:Hid (BytesIn Y.drew (some ⟨g0,o,none⟩) d):=HTB.out.below BY.out.drew
  clear hY b2Y
  obtain ⟨y0,y1,y2,fy⟩:=mbox_cells HTY.out
  refine wp_region_any (by kernel_rfl) ?_
  try (change wpAny _ _ _ _ _ _ _ (World.drew _))
  refine tA 0 ?_
  try simp only [lA,lB,lC,Act.put,lD,lE,lF]
  refine tA 1 ?_
  try simp only [lA,lB,lC,Act.put,lD,lE,lF]
  refine tA 2 ?_
  try simp only [lA,lB,lC,Act.put,lD,lE,lF]
  refine wpAny_ready (rs:=[3,4]) (by kernel_rfl) (by simp) ?_
  refine AllReady.cons rfl (fun K hK=>?_) (AllReady.cons rfl (fun K hK=>?_) AllReady.nil)
  · skip
    refine step_appN _ rfl (.const (.slice none 0 0)) (.tmp 12) 31 31 rfl 5 ib (.int .u8 0) 1 1 Tryz.underlying31 hib hib0 hib1 hib2 rfl rfl _ rfl k (u8cells d) (bytes_src (some ⟨g0,o,none⟩) k cap d _ HTBY.out HTL.out) (by omega) (by omega) ?_
    intro gd cd w3 P
    have BD:=hid (P.bytes HTL.out)
    have bP:=P.below
    have hfr:Hid (∀ k,gd=some k→w2.heap.size+1≤k):=fun k e=>by have h:Y.heap.size≤k:=P.fresh k e;omega
    have R3:Hid (w3.heap[w.heap.size]?=some (.cells #[.slice none 0 0,.int .i64 0,.int .i64 0,.slice none 0 0,.int .i64 0,.slice none 0 0] 96 (0,0))):=by
      show _=_
      rw [bP.block _ (by show w.heap.size < Y.heap.size;omega)];exact HRY.out
    have T3:Hid (MBox w2.heap.size 94 (.int .i64 view) (.int .i64 last) (.slice (gl.map fun k=>⟨k,0,none⟩) ls.length cl) w3):=by
      show _=_
      rw [bP.block _ (by show w2.heap.size < Y.heap.size;omega)];exact HTY.out
    have W3:Hid (Below w.heap.size w w3):=BY.out.drew.trans (bP.mono BY.out.size)
    have O3:Hid (OwnLines w w3 gl cl ls):=(HOY.out.below ((Below.refl _ _).drew)).below bP
    clear P bP
    refine hK _ _ ?_
    clear hK K
    obtain ⟨t0,t1,t2,ft⟩:=mbox_cells T3.out
    have q0:w3.cell? ⟨w.heap.size,0,none⟩=some (.slice none 0 0):=cell_of_heap R3.out 0
    have q1:w3.cell? ⟨w.heap.size,1,none⟩=some (.int .i64 0):=cell_of_heap R3.out 1
    have q2:w3.cell? ⟨w.heap.size,2,none⟩=some (.int .i64 0):=cell_of_heap R3.out 2
    have q3:w3.cell? ⟨w.heap.size,3,none⟩=some (.slice none 0 0):=cell_of_heap R3.out 3
    have q4:w3.cell? ⟨w.heap.size,4,none⟩=some (.int .i64 0):=cell_of_heap R3.out 4
    have q5:w3.cell? ⟨w.heap.size,5,none⟩=some (.slice none 0 0):=cell_of_heap R3.out 5
    have fq:∀ j,w3.frozen? ⟨w.heap.size,j,none⟩=false:=fun j=>frozen_of_heap R3.out j
    have hgdR:Hid (gd≠some w.heap.size):=fun e=>by have:=hfr.out _ e;omega
    simp only [Act.put,List.setIfInBounds_toArray,List.set_cons_zero,List.set_cons_succ,sl]
    refine wpAny_ready (rs:=[4]) (by kernel_rfl) (by simp) ?_
    refine AllReady.cons rfl (fun K hK=>?_) AllReady.nil
    go_simp
    refine hK _ _ ?_
    clear hK K
    refine tA 5 ?_
    try simp only [lA,lB,lC,Act.put,lD,lE,lF]
    refine wpAny_ready (rs:=[6]) (by kernel_rfl) (by simp) ?_
    refine AllReady.cons rfl (fun K hK=>?_) AllReady.nil
    go_simp
    refine hK _ _ ?_
    clear hK K
    refine wpAny_done (by kernel_rfl) ?_ _
    go_wp2
    refine openDRet (set6 R3.out rfl _ _ _ _ _ _) rfl rfl (HX.out gd cd _ ?_ ?_ ?_ ?_ ?_)
    · exact ((((((BD.out.1.touch1 w.heap.size 0 _ hgdR.out).touch1 w.heap.size 1 _ hgdR.out).touch1 w.heap.size 2 _ hgdR.out).touch1 w.heap.size 3 _ hgdR.out).touch1 w.heap.size 4 _ hgdR.out).touch1 w.heap.size 5 _ hgdR.out)
    · have h:=BD.out.2
      rw [HTL.out] at h
      exact (((((h.setOther w.heap.size 0 _ hgdR.out).setOther w.heap.size 1 _ hgdR.out).setOther w.heap.size 2 _ hgdR.out).setOther w.heap.size 3 _ hgdR.out).setOther w.heap.size 4 _ hgdR.out).setOther w.heap.size 5 _ hgdR.out
    · exact fun k e=>by have:=hfr.out k e;omega
    · exact (((((O3.out.setOther w.heap.size 0 _ hglR.out).setOther w.heap.size 1 _ hglR.out).setOther w.heap.size 2 _ hglR.out).setOther w.heap.size 3 _ hglR.out).setOther w.heap.size 4 _ hglR.out).setOther w.heap.size 5 _ hglR.out
    · exact (((((W3.out.setCell (p:=⟨w.heap.size,0,none⟩) (Nat.le_refl _) _).setCell (p:=⟨w.heap.size,1,none⟩) (Nat.le_refl _) _).setCell (p:=⟨w.heap.size,2,none⟩) (Nat.le_refl _) _).setCell (p:=⟨w.heap.size,3,none⟩) (Nat.le_refl _) _).setCell (p:=⟨w.heap.size,4,none⟩) (Nat.le_refl _) _).setCell (p:=⟨w.heap.size,5,none⟩) (Nat.le_refl _) _
  · go_simp
    refine hK _ _ ?_
    clear hK K
    refine wpAny_ready (rs:=[3]) (by kernel_rfl) (by simp) ?_
    refine AllReady.cons rfl (fun K hK=>?_) AllReady.nil
    refine step_appN _ rfl (.const (.slice none 0 0)) (.tmp 12) 31 31 rfl 5 ib (.int .u8 0) 1 1 Tryz.underlying31 hib hib0 hib1 hib2 rfl rfl _ rfl k (u8cells d) (bytes_src (some ⟨g0,o,none⟩) k cap d _ HTBY.out HTL.out) (by omega) (by omega) ?_
    intro gd cd w3 P
    have BD:=hid (P.bytes HTL.out)
    have bP:=P.below
    have hfr:Hid (∀ k,gd=some k→w2.heap.size+1≤k):=fun k e=>by have h:Y.heap.size≤k:=P.fresh k e;omega
    have R3:Hid (w3.heap[w.heap.size]?=some (.cells #[.slice none 0 0,.int .i64 0,.int .i64 0,.slice none 0 0,.int .i64 0,.slice none 0 0] 96 (0,0))):=by
      show _=_
      rw [bP.block _ (by show w.heap.size < Y.heap.size;omega)];exact HRY.out
    have T3:Hid (MBox w2.heap.size 94 (.int .i64 view) (.int .i64 last) (.slice (gl.map fun k=>⟨k,0,none⟩) ls.length cl) w3):=by
      show _=_
      rw [bP.block _ (by show w2.heap.size < Y.heap.size;omega)];exact HTY.out
    have W3:Hid (Below w.heap.size w w3):=BY.out.drew.trans (bP.mono BY.out.size)
    have O3:Hid (OwnLines w w3 gl cl ls):=(HOY.out.below ((Below.refl _ _).drew)).below bP
    clear P bP
    refine hK _ _ ?_
    clear hK K
    obtain ⟨t0,t1,t2,ft⟩:=mbox_cells T3.out
    have q0:w3.cell? ⟨w.heap.size,0,none⟩=some (.slice none 0 0):=cell_of_heap R3.out 0
    have q1:w3.cell? ⟨w.heap.size,1,none⟩=some (.int .i64 0):=cell_of_heap R3.out 1
    have q2:w3.cell? ⟨w.heap.size,2,none⟩=some (.int .i64 0):=cell_of_heap R3.out 2
    have q3:w3.cell? ⟨w.heap.size,3,none⟩=some (.slice none 0 0):=cell_of_heap R3.out 3
    have q4:w3.cell? ⟨w.heap.size,4,none⟩=some (.int .i64 0):=cell_of_heap R3.out 4
    have q5:w3.cell? ⟨w.heap.size,5,none⟩=some (.slice none 0 0):=cell_of_heap R3.out 5
    have fq:∀ j,w3.frozen? ⟨w.heap.size,j,none⟩=false:=fun j=>frozen_of_heap R3.out j
    have hgdR:Hid (gd≠some w.heap.size):=fun e=>by have:=hfr.out _ e;omega
    simp only [Act.put,List.setIfInBounds_toArray,List.set_cons_zero,List.set_cons_succ,sl]
    refine tA 5 ?_
    try simp only [lA,lB,lC,Act.put,lD,lE,lF]
    refine wpAny_ready (rs:=[6]) (by kernel_rfl) (by simp) ?_
    refine AllReady.cons rfl (fun K hK=>?_) AllReady.nil
    go_simp
    refine hK _ _ ?_
    clear hK K
    refine wpAny_done (by kernel_rfl) ?_ _
    go_wp2
    refine openDRet (set6 R3.out rfl _ _ _ _ _ _) rfl rfl (HX.out gd cd _ ?_ ?_ ?_ ?_ ?_)
    · exact ((((((BD.out.1.touch1 w.heap.size 0 _ hgdR.out).touch1 w.heap.size 1 _ hgdR.out).touch1 w.heap.size 2 _ hgdR.out).touch1 w.heap.size 3 _ hgdR.out).touch1 w.heap.size 4 _ hgdR.out).touch1 w.heap.size 5 _ hgdR.out)
    · have h:=BD.out.2
      rw [HTL.out] at h
      exact (((((h.setOther w.heap.size 0 _ hgdR.out).setOther w.heap.size 1 _ hgdR.out).setOther w.heap.size 2 _ hgdR.out).setOther w.heap.size 3 _ hgdR.out).setOther w.heap.size 4 _ hgdR.out).setOther w.heap.size 5 _ hgdR.out
    · exact fun k e=>by have:=hfr.out k e;omega
    · exact (((((O3.out.setOther w.heap.size 0 _ hglR.out).setOther w.heap.size 1 _ hglR.out).setOther w.heap.size 2 _ hglR.out).setOther w.heap.size 3 _ hglR.out).setOther w.heap.size 4 _ hglR.out).setOther w.heap.size 5 _ hglR.out
    · exact (((((W3.out.setCell (p:=⟨w.heap.size,0,none⟩) (Nat.le_refl _) _).setCell (p:=⟨w.heap.size,1,none⟩) (Nat.le_refl _) _).setCell (p:=⟨w.heap.size,2,none⟩) (Nat.le_refl _) _).setCell (p:=⟨w.heap.size,3,none⟩) (Nat.le_refl _) _).setCell (p:=⟨w.heap.size,4,none⟩) (Nat.le_refl _) _).setCell (p:=⟨w.heap.size,5,none⟩) (Nat.le_refl _) _
theorem rightConfig_no (kp me pa:Int) (w:World) (hc:¬ ConfOk kp me pa):Calls Tryz.prog 45 #[.agg #[.int .i64 kp,.int .i64 me,.int .i64 pa]] w fun e w'=>e=.returned (.bool false)∧Below w.heap.size w w':=by
  have h:=conf_no hc
  clear hc
  rcases h with ⟨h1,h2⟩ | ⟨hk,h⟩
  · go_enter Tryz.func45,Tryz.ntmps45
    go_wp2
    all_goals (go_ret;refine ⟨ret_bool (by simp_all),(Below.refl _ _).alloc (Nat.le_refl _) _⟩)
  rcases h with h | ⟨h0,h⟩
  · rcases hk with rfl | rfl
    all_goals
      go_enter Tryz.func45,Tryz.ntmps45
      go_wp2
      go_ret
      refine ⟨ret_bool (by simp;try omega),(Below.refl _ _).alloc (Nat.le_refl _) _⟩
  rcases h with h | ⟨h1,h⟩
  · rcases hk with rfl | rfl
    all_goals
      go_enter Tryz.func45,Tryz.ntmps45
      go_wp2
      go_ret
      refine ⟨ret_bool (by simp;try omega),(Below.refl _ _).alloc (Nat.le_refl _) _⟩
  rcases h with h | ⟨h2,h⟩
  all_goals
    rcases hk with rfl | rfl
    all_goals
      go_enter Tryz.func45,Tryz.ntmps45
      go_wp2
      go_ret
      refine ⟨ret_bool (by simp;try omega),(Below.refl _ _).alloc (Nat.le_refl _) _⟩
theorem rightConfig_yes (kp me pa:Int) (w:World) (hc:ConfOk kp me pa):Calls Tryz.prog 45 #[.agg #[.int .i64 kp,.int .i64 me,.int .i64 pa]] w fun e w'=>e=.returned (.bool true)∧Below w.heap.size w w':=by
  obtain ⟨hk,h0,h1,h2,h3⟩:=hc
  rcases hk with rfl | rfl
  all_goals
    go_enter Tryz.func45,Tryz.ntmps45
    go_wp2
    go_ret
    refine ⟨ret_bool (by simp_all),(Below.refl _ _).alloc (Nat.le_refl _) _⟩
end
end Go.Proofs.YtolififimldmlaaGreat
