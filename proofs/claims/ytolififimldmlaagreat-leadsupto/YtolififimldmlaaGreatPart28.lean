import Derived.Test.YtolififimldmlaaGreatPart17
import Derived.Test.YtolififimldmlaaGreatPart27
import Derived.Test.YtolififimldmlaaGreatPart08
set_option linter.unusedVariables false
set_option linter.unusedSimpArgs false
set_option maxRecDepth 100000
set_option maxHeartbeats 16000000
namespace Go.Proofs.YtolififimldmlaaGreat
section
open Go.RowKit
attribute [local go_sem ↓] Go.wp_at_zero Go.wp_at_succ
structure RV where
  kp:Int
  me:Int
  pa:Int
  d:List UInt8
  arm:Int
  dead:Bool
  lost:List UInt8
  m:Mm
  ag:Nat
  hs:Nat→Int
  g:Option Nat
  c:Nat
  os:List OutG
  sg:Option Nat
  sc:Nat
def RV.cells (v:RV):Array Value :=
  #[.int .i64 v.kp,.int .i64 v.me,.int .i64 v.pa,.string ⟨v.d.toArray⟩,.int .i64 v.arm,.bool v.dead,.string ⟨v.lost.toArray⟩,.int .i64 v.m.view,.int .i64 v.m.last,.slice (v.g.map fun k=>⟨k,0,none⟩) v.m.ls.length v.c,.int .i64 v.ag,
    .int .i64 (v.hs 0),.int .i64 (v.hs 1),.int .i64 (v.hs 2),.int .i64 (v.hs 3),.int .i64 (v.hs 4),.bool false,.bool false,.bool false,.bool false,.bool false,.bool false,.bool false,.bool false,.bool false,.bool false,
    .int .i64 0,.int .i64 0,.int .i64 0,.slice none 0 0,.int .i64 0,.int .i64 0,.int .i64 0,.slice none 0 0,.int .i64 0,.int .i64 0,.int .i64 0,.slice none 0 0,.int .i64 0,.int .i64 0,.int .i64 0,.slice none 0 0,.int .i64 0,.int .i64 0,.int .i64 0,.slice none 0 0,
    .bool false,.int .i64 0,.slice (v.sg.map fun k=>⟨k,0,none⟩) v.os.length v.sc]
structure OwnOutsR (w:World) (g:Option Nat) (c:Nat) (os:List OutG):Prop where
  own:OwnRow w 190 3 g os.length c
  at_:∀ j (h:j < os.length),∃ k,g=some k∧w.cell? ⟨k,j * 3,none⟩=some (.bool os[j].cl)∧w.cell? ⟨k,j * 3+1,none⟩=some (.int .i64 os[j].tk)∧w.cell? ⟨k,j * 3+2,none⟩=some (.string ⟨os[j].b.toArray⟩)
theorem OwnOutsR.none_ (w:World):OwnOutsR w none 0 []:=⟨.inl ⟨rfl,rfl,rfl⟩,fun j hj=>absurd hj (Nat.not_lt_zero _)⟩
theorem OwnOutsR.touch {T:Nat→Prop} {w w':World} {g:Option Nat} {c:Nat} {os:List OutG} (h:OwnOutsR w g c os) (ht:Touch T w w') (hn:∀ k,g=some k→¬ T k):OwnOutsR w' g c os :=
  ⟨h.own.touch ht hn,fun j hj=>by
    obtain ⟨k,e,h0,h1,h2⟩:=h.at_ j hj
    exact ⟨k,e,ht.cell h0 (hn k e),ht.cell h1 (hn k e),ht.cell h2 (hn k e)⟩⟩
theorem RowT.ne {w:World} {e e':TypeId} {size n c B:Nat} {b:Option Nat} {cur:Array Value} {f:Nat × Nat} (h:OwnRow w e size b n c) (hB:w.heap[B]?=some (.cells cur e' f)) (hne:e≠e'):b≠some B:=by
  rintro rfl
  rcases h with ⟨h,_⟩ | ⟨g,cu,h,hh,_⟩
  · cases h
  · cases h
    rw [hh] at hB
    simp at hB
    exact hne hB.2.1
structure RV.At (v:RV) (w:World) (K:Nat):Prop where
  blk:w.heap[K]?=some (.cells v.cells 185 (0,0))
  ls:LinesAt w (v.g.map fun k=>(⟨k,0,none⟩:Addr)) v.m.ls
  lc:v.m.ls.length≤v.c
  so:OwnOutsR w v.sg v.sc v.os
  gK:v.m.ls≠[]→v.g≠some K
  gS:v.m.ls≠[]→∀ k,v.sg=some k→v.g≠some k
theorem RV.At.lt {v:RV} {w:World} {K:Nat} (h:v.At w K):K < w.heap.size:=heap_lt h.blk
theorem RV.At.sK {v:RV} {w:World} {K:Nat} (h:v.At w K):v.sg≠some K:=RowT.ne h.so.own h.blk (by decide)
theorem LinesAt.touch' {T:Nat→Prop} {w w':World} {g:Option Nat} {ls:List Ln} (h:LinesAt w (g.map fun k=>(⟨k,0,none⟩:Addr)) ls) (ht:Touch T w w') (hn:ls≠[]→∀ k,g=some k→¬ T k):LinesAt w' (g.map fun k=>(⟨k,0,none⟩:Addr)) ls:=by
  cases ls with
  | nil=>exact fun j hj=>absurd hj (Nat.not_lt_zero _)
  | cons x xs =>
    refine h.touch ht (fun q e=>?_)
    cases g with
    | none=>cases e
    | some g0=>cases e;exact hn (by simp) g0 rfl
theorem RV.At.touch {v:RV} {w w':World} {K:Nat} {T:Nat→Prop} (h:v.At w K) (ht:Touch T w w') (hK:¬ T K) (hs:∀ k,v.sg=some k→¬ T k) (hg:v.m.ls≠[]→∀ k,v.g=some k→¬ T k):v.At w' K :=
  ⟨ht.heapAt h.blk hK,h.ls.touch' ht hg,h.lc,h.so.touch ht hs,h.gK,h.gS⟩
theorem RV.At.below {v:RV} {w w':World} {K:Nat} (h:v.At w K) (hb:Below w.heap.size w w'):v.At w' K :=
  h.touch (T:=fun _=>False) (Touch.of_belowAll hb _) (fun e=>e) (fun _ _ e=>e) (fun _ _ _ e=>e)
theorem LinesAt.rowlt {w:World} {g:Option Nat} {ls:List Ln} (h:LinesAt w (g.map fun k=>(⟨k,0,none⟩:Addr)) ls) (hn:ls≠[]) (k:Nat) (e:g=some k):k < w.heap.size:=by
  subst e
  cases ls with
  | nil=>exact absurd rfl hn
  | cons x xs =>
    obtain ⟨q,o,eq,h0,_⟩:=h 0 (by simp)
    cases eq
    exact World.block_lt_of_cell? _ _ h0
structure RChg (w w':World) (K:Nat) (v v':RV):Prop where
  at_:v'.At w' K
  tch:Touch (fun k=>k=K∨v.sg=some k) w w'
  sn:∀ k,v'.sg=some k→v.sg=some k∨w.heap.size≤k
  gn:v'.g=v.g∨∀ k,v'.g=some k→w.heap.size≤k
theorem RChg.same {w w':World} {K:Nat} {v:RV} (h:v.At w K) (hb:Below w.heap.size w w'):RChg w w' K v v:=⟨h.below hb,Touch.of_belowAll hb _,fun _ e=>.inl e,.inl rfl⟩
theorem RChg.trans {w x y:World} {K:Nat} {v u t:RV} (h:RChg w x K v u) (k:RChg x y K u t):RChg w y K v t :=
  ⟨k.at_,h.tch.trans k.tch (fun i hi e=>by
    rcases e with e | e
    · exact .inl e
    · rcases h.sn i e with e | e
      · exact .inr e
      · omega),fun i e=>by
    rcases k.sn i e with e | e
    · exact h.sn i e
    · exact .inr (Nat.le_trans h.tch.size e),by
    rcases k.gn with e | e
    · rw [e];exact h.gn
    · exact .inr (fun i ei=>Nat.le_trans h.tch.size (e i ei))⟩
theorem RChg.below {w x y:World} {K:Nat} {v u:RV} (h:RChg w x K v u) (hb:Below x.heap.size x y):RChg w y K v u:=h.trans (RChg.same h.at_ hb)
theorem RChg.of {w x y:World} {K:Nat} {v u:RV} (hb:Below w.heap.size w x) (hv:v.At w K) (h:RChg x y K v u):RChg w y K v u:=(RChg.same hv hb).trans h
theorem RV.At.cellChg {v u:RV} {w:World} {K j:Nat} {x:Value} (h:v.At w K) (hc:v.cells.setIfInBounds j x=u.cells) (hd:u.m.ls=v.m.ls∧u.os=v.os∧u.g=v.g∧u.c=v.c∧u.sg=v.sg∧u.sc=v.sc):RChg w (w.setCell ⟨K,j,none⟩ x) K v u:=by
  have t:Touch (fun k=>k=K) w (w.setCell ⟨K,j,none⟩ x):=(Touch.refl (fun k=>k=K) w).setCell (p:=⟨K,j,none⟩) (fun _=>rfl) _
  have hb:=heap_setCell h.blk j x
  obtain ⟨e1,e2,e3,e4,e5,e6⟩:=hd
  rw [hc] at hb
  refine ⟨⟨hb,?_,?_,?_,?_,?_⟩,t.mono (fun i _ e=>.inl e),fun k e=>.inl (by rw [← e5];exact e),.inl e3⟩
  · rw [e1,e3];exact h.ls.touch' t (fun hn k e e2=>h.gK hn (by rw [e,e2]))
  · rw [e1,e4];exact h.lc
  · rw [e2,e5,e6];exact h.so.touch t (fun k e e2=>h.sK (by rw [e,e2]))
  · rw [e1,e3];exact h.gK
  · rw [e1,e3,e5];exact h.gS
section
variable (v:RV) (K:Nat) (w:World) (h:v.At w K)
include h
theorem refIn:Calls Tryz.prog 105 #[.pointer (some ⟨K,0,none⟩)] w fun e w'=>e=.returned (.bool (decide (v.m.view=v.m.last)))∧Below w.heap.size w w':=by
  have c7:w.cell? ⟨K,7,none⟩=some (.int .i64 v.m.view):=cell_of_heap h.blk 7
  have c8:w.cell? ⟨K,8,none⟩=some (.int .i64 v.m.last):=cell_of_heap h.blk 8
  clear h
  go_enter Tryz.func105,Tryz.ntmps105
  go_wp2
  go_still_tail 11,(by kernel_rfl)
  go_wp2
  go_ret
  exact ⟨rfl,(Below.refl _ _).drew⟩
theorem refFew (hk:v.kp=3∨v.kp=5):Calls Tryz.prog 180 #[.pointer (some ⟨K,0,none⟩)] w fun e w'=>e=.returned (.int .i64 (v.kp / 2))∧Below w.heap.size w w':=by
  have c0:w.cell? ⟨K,0,none⟩=some (.int .i64 v.kp):=cell_of_heap h.blk 0
  clear h
  generalize v.kp=kp at *
  rcases hk with rfl | rfl
  all_goals
    go_enter Tryz.func180,Tryz.ntmps180
    go_wp2
    go_ret
    exact ⟨rfl,Below.refl _ _⟩
theorem refLeads (hk:v.kp=3∨v.kp=5) (hv:v.m.view=0):Calls Tryz.prog 106 #[.pointer (some ⟨K,0,none⟩)] w fun e w'=>e=.returned (.bool (decide (0=v.me)))∧Below w.heap.size w w':=by
  have c7:w.cell? ⟨K,7,none⟩=some (.int .i64 0):=by rw [← hv];exact cell_of_heap h.blk 7
  have c0:w.cell? ⟨K,0,none⟩=some (.int .i64 v.kp):=cell_of_heap h.blk 0
  have c1:w.cell? ⟨K,1,none⟩=some (.int .i64 v.me):=cell_of_heap h.blk 1
  clear h hv
  generalize v.kp=kp at *
  generalize v.me=me at *
  rcases hk with rfl | rfl
  all_goals
    go_enter Tryz.func106,Tryz.ntmps106
    go_wp2
    go_still_tail 17,(by kernel_rfl)
    go_wp2
    go_ret
    exact ⟨rfl,(Below.refl _ _).drew⟩
end
end
section
theorem getD_app {b r:List UInt8} (h:b.length≠0):(b++r).getD 0 0=b.getD 0 0:=by
  cases b with
  | nil=>simp at h
  | cons x t=>rfl
theorem recOf_app {b r:List UInt8} {p:List UInt8 × Nat} (h:recOf b=some p):recOf (b++r)=some p:=by
  have hl:=recOf_len h
  unfold recOf at h ⊢
  split at h
  · cases h
  · rename_i h0
    split at h
    · cases h
    · rename_i h1
      rw [if_neg (by rw [List.length_append];omega),getD_app h0,if_neg (by rw [List.length_append];omega),List.take_append_of_le_length (by omega)]
      split at h
      · rename_i h2
        rw [if_pos h2]
        cases h
        rw [List.drop_append_of_le_length (by omega),List.take_append_of_le_length (by rw [List.length_drop];omega)]
      · cases h
theorem recBytes_len (inner:List UInt8):(recBytes inner).length=inner.length+3:=by unfold recBytes withChk;simp
theorem recBytes_first (inner:List UInt8) (h:inner.length≤255):((recBytes inner).getD 0 0).toNat=inner.length:=by
  show (byteOf (inner.length:Int)).toNat=_
  have:=byteOf_in (n:=(inner.length:Int)) (by omega) (by omega)
  omega
theorem recOf_rec (inner:List UInt8) (h:inner.length≤255):recOf (recBytes inner)=some (inner,inner.length+3):=by
  have hl:=recBytes_len inner
  have hf:=recBytes_first inner h
  unfold recOf
  rw [if_neg (by omega),hf,if_neg (by omega),if_pos]
  · congr 1
    refine Prod.ext ?_ rfl
    show ((recBytes inner).drop 1).take inner.length=inner
    unfold recBytes withChk
    simp
  · rw [List.take_of_length_le (by omega),strip_iff _ (by omega)]
    have:(recBytes inner).take ((recBytes inner).length - 2)=byteOf (inner.length:Int) :: inner:=by
      rw [hl]
      unfold recBytes withChk
      rw [List.take_left' (by simp)]
    rw [this];rfl
theorem recOf_part (inner:List UInt8) (h:inner.length≤255) (k:Nat) (hk:k < (recBytes inner).length):recOf ((recBytes inner).take k)=none:=by
  have hl:=recBytes_len inner
  have hf:=recBytes_first inner h
  unfold recOf
  cases k with
  | zero=>simp
  | succ k =>
    have e:(((recBytes inner).take (k+1)).getD 0 0).toNat=inner.length:=by
      rw [← hf]
      cases e:recBytes inner with
      | nil=>rw [e] at hl;simp at hl
      | cons x t=>rfl
    rw [if_neg (by rw [List.length_take];omega),e,if_pos (by rw [List.length_take];omega)]
theorem readF_app {d r:List UInt8} {m:Mm}:∀ (f:Nat) (m0:Mm) (at_:Nat),at_≤d.length→d.length+1≤f+at_→readF d f m0 at_=(m,d.length)→∃ f',readF (d++r) (f+r.length) m0 at_=readF (d++r) (f'+r.length) m d.length∧1≤f':=by
  intro f
  induction f with
  | zero=>intro m0 at_ h1 h2 _;omega
  | succ f ih =>
    intro m0 at_ h1 h2 h
    cases e:recOf (d.drop at_) with
    | none =>
      rw [readF_stop e] at h
      cases h
      exact ⟨f+1,rfl,by omega⟩
    | some p =>
      have hl:=recOf_len e
      rw [List.length_drop] at hl
      have e2:recOf ((d++r).drop at_)=some p:=by rw [List.drop_append_of_le_length h1];exact recOf_app e
      cases e3:doesM m0 p.1 with
      | none =>
        rw [readF_no e e3] at h
        cases h
        omega
      | some m' =>
        unfold readF at h
        rw [e] at h
        simp only at h
        rw [e3] at h
        obtain ⟨f',h3,h4⟩:=ih m' (at_+p.2) (by omega) (by omega) h
        refine ⟨f',?_,h4⟩
        rw [← h3,show f+1+r.length=(f+r.length)+1 from by omega]
        conv=>lhs;unfold readF
        rw [e2];simp only;rw [e3]
theorem readD_part {d:List UInt8} {m:Mm} (h:readD d=(m,d.length)) (inner:List UInt8) (hi:inner.length≤255) (k:Nat) (hk:k < (recBytes inner).length):readD (d++(recBytes inner).take k)=(m,d.length):=by
  unfold readD at h ⊢
  obtain ⟨f',h1,h2⟩:=readF_app (r:=(recBytes inner).take k) _ _ _ (Nat.zero_le _) (Nat.le_refl _) h
  rw [List.length_append,show d.length+((recBytes inner).take k).length+1=d.length+1+((recBytes inner).take k).length from by omega,h1]
  exact readF_stop (by rw [List.drop_left];exact recOf_part inner hi k hk) _
theorem readD_rec {d:List UInt8} {m m':Mm} (h:readD d=(m,d.length)) (inner:List UInt8) (hi:inner.length≤255) (hm:doesM m inner=some m'):readD (d++recBytes inner)=(m',(d++recBytes inner).length):=by
  unfold readD at h ⊢
  obtain ⟨f',h1,h2⟩:=readF_app (r:=recBytes inner) _ _ _ (Nat.zero_le _) (Nat.le_refl _) h
  conv=>lhs;rw [List.length_append,show d.length+(recBytes inner).length+1=d.length+1+(recBytes inner).length from by omega,h1]
  obtain ⟨f1,rfl⟩:∃ f1,f'=f1+1:=⟨f' - 1,by omega⟩
  rw [show f1+1+(recBytes inner).length=(f1+(recBytes inner).length)+1 from by omega]
  conv=>lhs;unfold readF
  rw [List.drop_left,recOf_rec inner hi]
  simp only
  rw [hm]
  simp only
  have hl:=recBytes_len inner
  rw [readF_stop (by rw [List.drop_eq_nil_of_le (by rw [List.length_append];omega)];rfl),List.length_append,hl]
theorem readD_take (l:List UInt8):readD (l.take (readD l).2)=((readD l).1,(l.take (readD l).2).length):=by
  have key:∀ (f:Nat) (m0:Mm) (at_:Nat),at_≤l.length→l.length+1≤f+at_→∀ n m,readF l f m0 at_=(m,n)→∀ f2,n+1≤f2+at_→readF (l.take n) f2 m0 at_=(m,n):=by
    intro f
    induction f with
    | zero=>intro m0 at_ h1 h2;omega
    | succ f ih =>
      intro m0 at_ h1 h2 n m h f2 h3
      cases e:recOf (l.drop at_) with
      | none =>
        rw [readF_stop e] at h
        cases h
        exact readF_stop (by rw [List.drop_eq_nil_of_le (by rw [List.length_take];omega)];rfl) _
      | some p =>
        have hl:=recOf_len e
        rw [List.length_drop] at hl
        cases e3:doesM m0 p.1 with
        | none =>
          rw [readF_no e e3] at h
          cases h
          exact readF_stop (by rw [List.drop_eq_nil_of_le (by rw [List.length_take];omega)];rfl) _
        | some m' =>
          have hge:at_+p.2≤n:=by
            have:∀ (f:Nat) (m0:Mm) (a:Nat),a≤(readF l f m0 a).2:=by
              intro f
              induction f with
              | zero=>intro m0 a;exact Nat.le_refl _
              | succ f ih =>
                intro m0 a
                unfold readF
                split
                · exact Nat.le_refl _
                · split
                  · exact Nat.le_refl _
                  · exact Nat.le_trans (by omega) (ih _ _)
            unfold readF at h
            rw [e] at h
            simp only at h
            rw [e3] at h
            have:=this f m' (at_+p.2)
            simp only at h
            rw [h] at this
            exact this
          unfold readF at h
          rw [e] at h
          simp only at h
          rw [e3] at h
          obtain ⟨f3,rfl⟩:∃ f3,f2=f3+1:=⟨f2 - 1,by omega⟩
          have e4:recOf ((l.take n).drop at_)=some p:=by
            have hp:recOf ((l.drop at_).take (n - at_))=some p:=by
              have e':=e
              unfold recOf at e ⊢
              split at e
              · cases e
              · rename_i q0
                split at e
                · cases e
                · rename_i q1
                  split at e
                  · rename_i q2
                    cases e
                    dsimp only at hge hl
                    rw [List.length_drop] at q1
                    have g0:((l.drop at_).take (n - at_)).getD 0 0=(l.drop at_).getD 0 0:=by
                      cases hh:l.drop at_ with
                      | nil=>rw [hh] at q0;simp at q0
                      | cons x t =>
                        obtain ⟨k,hk⟩:∃ k,n - at_=k+1:=⟨n - at_ - 1,by omega⟩
                        rw [hk];rfl
                    rw [if_neg (by rw [List.length_take,List.length_drop];omega),g0,if_neg (by rw [List.length_take,List.length_drop];omega),List.take_take,Nat.min_eq_left (by omega),if_pos q2]
                    congr 1
                    refine Prod.ext ?_ rfl
                    dsimp only
                    rw [List.drop_take,List.take_take,Nat.min_eq_left (by omega)]
                  · cases e
            rw [List.drop_take];exact hp
          unfold readF
          rw [e4]
          simp only
          rw [e3]
          exact ih m' (at_+p.2) (by omega) (by omega) n m h f3 (by omega)
  have hle:=readD_le l
  have hlen:(l.take (readD l).2).length=(readD l).2:=by rw [List.length_take];omega
  have:=key (l.length+1) Mm.zero 0 (Nat.zero_le _) (Nat.le_refl _) (readD l).2 (readD l).1 rfl ((l.take (readD l).2).length+1) (by omega)
  show readF (l.take (readD l).2) ((l.take (readD l).2).length+1) Mm.zero 0=_
  rw [this,hlen]
end
section
open Go.RowKit
attribute [local go_sem ↓] Go.wp_at_zero Go.wp_at_succ
theorem Box.drew {B:Nat} {v0 v1 v2 v3 v4 v5 v6 v7 v8 v9:Value} {X:World} (h:Box B v0 v1 v2 v3 v4 v5 v6 v7 v8 v9 X):Box B v0 v1 v2 v3 v4 v5 v6 v7 v8 v9 X.drew:=h
theorem beginRet {Q:Ending→World→Prop} {a:Act} {W:World} {B:Nat} {v0 v1 v2 v3 v4 v5 v6 v7 v8 v9:Value} (hB:Box B v0 v1 v2 v3 v4 v5 v6 v7 v8 v9 W)
    (ht:a.tmps[2]?=some (.pointer (some ⟨B,0,none⟩))) (hd:a.defers=[]) (hq:Q (.returned (.agg #[v0,v1,v2,v3,v4,v5,v6,v7,v8,v9])) W):bodyPost Tryz.prog Tryz.f152 Q Exit.ret a W:=by
  obtain ⟨c0,c1,c2,c3,c4,c5,c6,c7,c8,c9⟩:=box_cells hB
  exact bodyPost_ret (v:=.agg #[v0,v1,v2,v3,v4,v5,v6,v7,v8,v9]) (by simp [results,Tryz.results152,go_sem,ht,c0,c1,c2,c3,c4,c5,c6,c7,c8,c9]) hd hq
theorem prepareRet {Q:Ending→World→Prop} {a:Act} {W:World} {B:Nat} {v0 v1 v2 v3 v4 v5 v6 v7 v8 v9:Value} (hB:Box B v0 v1 v2 v3 v4 v5 v6 v7 v8 v9 W)
    (ht:a.tmps[4]?=some (.pointer (some ⟨B,0,none⟩))) (hd:a.defers=[]) (hq:Q (.returned (.agg #[v0,v1,v2,v3,v4,v5,v6,v7,v8,v9])) W):bodyPost Tryz.prog Tryz.f108 Q Exit.ret a W:=by
  obtain ⟨c0,c1,c2,c3,c4,c5,c6,c7,c8,c9⟩:=box_cells hB
  exact bodyPost_ret (v:=.agg #[v0,v1,v2,v3,v4,v5,v6,v7,v8,v9]) (by simp [results,Tryz.results108,go_sem,ht,c0,c1,c2,c3,c4,c5,c6,c7,c8,c9]) hd hq
section
variable (v:RV) (K:Nat) (w:World) (h:v.At w K)
include h
theorem refBegin:Calls Tryz.prog 152 #[.pointer (some ⟨K,0,none⟩)] w fun e w'=>e=.returned (.agg #[.int .i64 7,.int .i64 0,.int .i64 v.m.view,.int .i64 0,.int .i64 v.ag,.int .i64 0,.int .i64 0,.int .i64 0,.string ⟨#[]⟩,.slice (v.g.map fun k=>⟨k,0,none⟩) v.m.ls.length v.c])∧Below w.heap.size w w':=by
  have hlt:=h.lt
  have HN:=hid (heap_alloc_new w (.cells #[.int .i64 0,.int .i64 0,.int .i64 0,.int .i64 0,.int .i64 0,.int .i64 0,.int .i64 0,.int .i64 0,.string ⟨#[]⟩,.slice none 0 0] 30))
  have HB:=hid ((Below.refl _ w).alloc (Nat.le_refl _) (.cells #[.int .i64 0,.int .i64 0,.int .i64 0,.int .i64 0,.int .i64 0,.int .i64 0,.int .i64 0,.int .i64 0,.string ⟨#[]⟩,.slice none 0 0] 30))
  have HA:=hid (h.below HB.out)
  clear h
  go_enter Tryz.func152,Tryz.ntmps152
  go_wp2
  generalize w.alloc (.cells #[.int .i64 0,.int .i64 0,.int .i64 0,.int .i64 0,.int .i64 0,.int .i64 0,.int .i64 0,.int .i64 0,.string ⟨#[]⟩,.slice none 0 0] 30)=Y at *
  have c7:Y.cell? ⟨K,7,none⟩=some (.int .i64 v.m.view):=cell_of_heap HA.out.blk 7
  have c9:Y.cell? ⟨K,9,none⟩=some (.slice (v.g.map fun k=>⟨k,0,none⟩) v.m.ls.length v.c):=cell_of_heap HA.out.blk 9
  have c10:Y.cell? ⟨K,10,none⟩=some (.int .i64 v.ag):=cell_of_heap HA.out.blk 10
  obtain ⟨r0,r1,r2,r3,r4,r5,r6,r7,r8,r9⟩:=box_cells HN.out
  have hfR:∀ j,Y.frozen? ⟨w.heap.size,j,none⟩=false:=fun j=>frozen_of_heap HN.out j
  go_still_tail 15,(by kernel_rfl)
  go_wp2
  exact beginRet (Box.drew (set10 HN.out rfl _ _ _ _ _ _ _ _ _ _)) rfl rfl ⟨rfl,(below10 HB.out (Nat.le_refl _) _ _ _ _ _ _ _ _ _ _).drew⟩
theorem refPrepare (p:Nat) (h1:p < v.m.ls.length) (h20:v.m.ls.length≤1000) (ln:Ln) (hln:v.m.ls[p]=ln):Calls Tryz.prog 108 #[.pointer (some ⟨K,0,none⟩),.int .i64 (p+1:Nat)] w fun e w'=>e=.returned (.agg #[.int .i64 2,.int .i64 0,.int .i64 v.m.view,.int .i64 (p+1:Nat),.int .i64 v.ag,.int .i64 0,.int .i64 ln.c,.int .i64 ln.t,.string ⟨ln.s.toArray⟩,.slice none 0 0])∧Below w.heap.size w w':=by
  have hlt:=h.lt
  have HLN:=hid hln
  clear hln
  have HN:=hid (heap_alloc_new w (.cells #[.int .i64 0,.int .i64 0,.int .i64 0,.int .i64 0,.int .i64 0,.int .i64 0,.int .i64 0,.int .i64 0,.string ⟨#[]⟩,.slice none 0 0] 30))
  have HB:=hid ((Below.refl _ w).alloc (Nat.le_refl _) (.cells #[.int .i64 0,.int .i64 0,.int .i64 0,.int .i64 0,.int .i64 0,.int .i64 0,.int .i64 0,.int .i64 0,.string ⟨#[]⟩,.slice none 0 0] 30))
  have HA:=hid (h.below HB.out)
  clear h
  go_enter Tryz.func108,Tryz.ntmps108
  go_wp2
  generalize w.alloc (.cells #[.int .i64 0,.int .i64 0,.int .i64 0,.int .i64 0,.int .i64 0,.int .i64 0,.int .i64 0,.int .i64 0,.string ⟨#[]⟩,.slice none 0 0] 30)=Y at *
  have c7:Y.cell? ⟨K,7,none⟩=some (.int .i64 v.m.view):=cell_of_heap HA.out.blk 7
  have c9:Y.cell? ⟨K,9,none⟩=some (.slice (v.g.map fun k=>⟨k,0,none⟩) v.m.ls.length v.c):=cell_of_heap HA.out.blk 9
  have c10:Y.cell? ⟨K,10,none⟩=some (.int .i64 v.ag):=cell_of_heap HA.out.blk 10
  obtain ⟨q,o,eq,l0,l1,l2⟩:=HA.out.ls p h1
  rw [eq] at c9
  obtain ⟨r0,r1,r2,r3,r4,r5,r6,r7,r8,r9⟩:=box_cells HN.out
  have hfR:∀ j,Y.frozen? ⟨w.heap.size,j,none⟩=false:=fun j=>frozen_of_heap HN.out j
  have w1:IntKind.i64.wrap (p:Int)=(p:Int):=by rw [IntWalk.i64_left,IntWalk.wrap64_in _ (by omega)]
  have b0:(0:Int)≤(p:Int):=by omega
  have b1:(p:Int) < (v.m.ls.length:Int):=by omega
  rw [HLN.out] at l0 l1 l2
  go_still_tail 20,(by kernel_rfl)
  go_wp2
  exact prepareRet (Box.drew (set10 HN.out rfl _ _ _ _ _ _ _ _ _ _)) rfl rfl ⟨rfl,(below10 HB.out (Nat.le_refl _) _ _ _ _ _ _ _ _ _ _).drew⟩
theorem refAgree (n:Nat) (hn:n≤1000) (hl:v.m.ls.length≤1000):Calls Tryz.prog 178 #[.pointer (some ⟨K,0,none⟩),.int .i64 n] w fun e w'=>e=.returned (.tuple #[])∧RChg w w' K v { v with ag:=max v.ag (min n v.m.ls.length) }:=by
  have c9:w.cell? ⟨K,9,none⟩=some (.slice (v.g.map fun k=>⟨k,0,none⟩) v.m.ls.length v.c):=cell_of_heap h.blk 9
  have c10:w.cell? ⟨K,10,none⟩=some (.int .i64 v.ag):=cell_of_heap h.blk 10
  have f10:w.frozen? ⟨K,10,none⟩=false:=frozen_of_heap h.blk 10
  have HS:Hid (∀ m:Nat,RChg w (w.setCell ⟨K,10,none⟩ (.int .i64 m)) K v { v with ag:=m }):=fun m=>h.cellChg (by unfold RV.cells;simp only [List.setIfInBounds_toArray,List.set_cons_zero,List.set_cons_succ]) ⟨rfl,rfl,rfl,rfl,rfl,rfl⟩
  have H0:=hid (RChg.same h (Below.refl _ w))
  clear h
  generalize hL:v.m.ls.length=L at *
  generalize hA:v.ag=A at *
  have HA:Hid (v.ag=A):=hA
  clear hL hA
  rcases Nat.lt_or_ge L n with h1 | h1
  · have h1':(L:Int) < (n:Int):=by omega
    rcases Nat.lt_or_ge A L with h2 | h2
    · have h2':(A:Int) < (L:Int):=by omega
      have he:max A (min n L)=L:=by omega
      rw [he]
      go_enter Tryz.func178,Tryz.ntmps178
      go_wp2
      go_end0
      exact ⟨rfl,HS.out L⟩
    · have h2':¬ (A:Int) < (L:Int):=by omega
      have he:max A (min n L)=A:=by omega
      rw [he]
      go_enter Tryz.func178,Tryz.ntmps178
      go_wp2
      go_end0
      refine ⟨rfl,?_⟩
      rw [← HA.out];exact H0.out
  · have h1':¬ (L:Int) < (n:Int):=by omega
    rcases Nat.lt_or_ge A n with h2 | h2
    · have h2':(A:Int) < (n:Int):=by omega
      have he:max A (min n L)=n:=by omega
      rw [he]
      go_enter Tryz.func178,Tryz.ntmps178
      go_wp2
      go_end0
      exact ⟨rfl,HS.out n⟩
    · have h2':¬ (A:Int) < (n:Int):=by omega
      have he:max A (min n L)=A:=by omega
      rw [he]
      go_enter Tryz.func178,Tryz.ntmps178
      go_wp2
      go_end0
      refine ⟨rfl,?_⟩
      rw [← HA.out];exact H0.out
theorem refArm (n:Int):Calls Tryz.prog 60 #[.pointer (some ⟨K,0,none⟩),.int .i64 n] w fun e w'=>e=.returned (.tuple #[])∧RChg w w' K v { v with arm:=max n 0 }:=by
  have c4:w.cell? ⟨K,4,none⟩=some (.int .i64 v.arm):=cell_of_heap h.blk 4
  have f4:w.frozen? ⟨K,4,none⟩=false:=frozen_of_heap h.blk 4
  have HS:Hid (∀ m:Int,RChg w (w.setCell ⟨K,4,none⟩ (.int .i64 m)) K v { v with arm:=m }):=fun m=>h.cellChg (by unfold RV.cells;simp only [List.setIfInBounds_toArray,List.set_cons_zero,List.set_cons_succ]) ⟨rfl,rfl,rfl,rfl,rfl,rfl⟩
  have HS2:Hid (∀ m:Int,RChg w ((w.setCell ⟨K,4,none⟩ (.int .i64 m)).setCell ⟨K,4,none⟩ (.int .i64 0)) K v { v with arm:=0 }):=fun m=>(HS.out m).trans ((HS.out m).at_.cellChg (by unfold RV.cells;simp only [List.setIfInBounds_toArray,List.set_cons_zero,List.set_cons_succ]) ⟨rfl,rfl,rfl,rfl,rfl,rfl⟩)
  clear h
  rcases Int.lt_or_le n 0 with h1 | h1
  · rw [show max n 0=0 from by omega]
    go_enter Tryz.func60,Tryz.ntmps60
    go_wp2
    go_end0
    exact ⟨rfl,HS2.out n⟩
  · rw [show max n 0=n from by omega]
    have h1':¬ n < 0:=by omega
    go_enter Tryz.func60,Tryz.ntmps60
    go_wp2
    go_end0
    exact ⟨rfl,HS.out n⟩
end
theorem Tryz.info190:(Tryz.prog.info? 190).map (fun i=>(i.zero,i.size,i.bytes))=some (some (.agg #[.bool false,.int .i64 0,.string ⟨#[]⟩]),3,32):=by kernel_rfl
def RV.push (v:RV) (x:OutG) (g c:Nat):RV:={ v with os:=v.os++[x],sg:=some g,sc:=c }
theorem OwnOutsR.app {X w3:World} {b:Option Nat} {c0 g c:Nat} {os:List OutG} {x:OutG} (h:OwnOutsR X b c0 os) (Q:AppPost X w3 190 3 b os.length 1 [.bool x.cl,.int .i64 x.tk,.string ⟨x.b.toArray⟩] g c):OwnOutsR w3 (some g) c (os++[x]):=by
  refine ⟨?_,fun j hj=>⟨g,rfl,?_⟩⟩
  · rw [List.length_append];exact Q.own
  · rw [List.length_append,List.length_singleton] at hj
    by_cases ej:j=os.length
    · subst ej
      have n0:=Q.new 0 (by omega)
      have n1:=Q.new 1 (by omega)
      have n2:=Q.new 2 (by omega)
      simp only [List.getElem_append_right (Nat.le_refl _),Nat.sub_self,List.getElem_singleton]
      exact ⟨by simpa using n0,by simpa using n1,by simpa using n2⟩
    · have hlt:j < os.length:=by omega
      obtain ⟨k,e,h0,h1,h2⟩:=h.at_ j hlt
      rw [List.getElem_append_left hlt,Q.old (j * 3) (by omega) k e,Q.old (j * 3+1) (by omega) k e,Q.old (j * 3+2) (by omega) k e]
      exact ⟨h0,h1,h2⟩
theorem RV.At.push {v:RV} {X w3:World} {K n g c:Nat} {x:OutG} (h:v.At X K) (hn:v.os.length=n) (Q:AppPost X w3 190 3 v.sg n 1 [.bool x.cl,.int .i64 x.tk,.string ⟨x.b.toArray⟩] g c) :
    RChg X (w3.setCell ⟨K,48,none⟩ (.slice (some ⟨g,0,none⟩) (n+1) c)) K v (v.push x g c):=by
  subst hn
  have hK:=h.lt
  have nK:v.sg≠some K:=h.sK
  have gK:g≠K:=fun e=>by
    subst e
    rcases Q.lies with e | e
    · exact nK e
    · omega
  have t:Touch (fun k=>k=K∨v.sg=some k) X (w3.setCell ⟨K,48,none⟩ (.slice (some ⟨g,0,none⟩) (v.os.length+1) c)):=(Q.touch.mono (fun i _ e=>.inr e)).setCell (p:=⟨K,48,none⟩) (fun _=>.inl rfl) _
  have hb:=heap_setCell (Q.touch.heapAt h.blk nK) 48 (.slice (some ⟨g,0,none⟩) (v.os.length+1) c)
  have hc:v.cells.setIfInBounds 48 (.slice (some ⟨g,0,none⟩) (v.os.length+1) c)=(v.push x g c).cells:=by
    unfold RV.cells RV.push
    simp only [List.setIfInBounds_toArray,List.set_cons_zero,List.set_cons_succ,List.length_append,List.length_singleton,Option.map_some]
  rw [hc] at hb
  refine ⟨⟨hb,?_,h.lc,?_,h.gK,fun hn k e=>?_⟩,t,fun k e=>?_,.inl rfl⟩
  · refine h.ls.touch' t (fun hn k e e2=>?_)
    rcases e2 with e2 | e2
    · exact h.gK hn (by rw [e,e2])
    · exact h.gS hn k e2 e
  · exact (h.so.app Q).touch (T:=fun k=>k=K) ((Touch.refl (fun k=>k=K) w3).setCell (p:=⟨K,48,none⟩) (fun _=>rfl) _) (fun k e e2=>gK (by rw [← e2];exact Option.some.inj e))
  · have e:some g=some k:=e
    cases e
    intro e2
    rcases Q.lies with q | q
    · exact h.gS hn g q e2
    · have:=h.ls.rowlt hn g e2;omega
  · have e:some g=some k:=e
    cases e
    exact Q.lies
def SentRet (w:World) (K:Nat) (v:RV) (x:OutG) (e:Ending) (w':World):Prop:=e=.returned (.tuple #[])∧∃ g c,RChg w w' K v (v.push x g c)
section
variable (v:RV) (K:Nat) (w:World) (h:v.At w K)
include h
theorem refSend (tk:Int) (f:Fr) (a:Option Addr) (cap:Nat) (hl:LinesAt w a f.lines) (hn:f.lines.length≤100000000) (hcap:f.lines.length≤cap) (ho:v.os.length≤1000) (b:List UInt8) (hb:packS { f with frm:=v.me }=b) :
    Calls Tryz.prog 107 #[.pointer (some ⟨K,0,none⟩),.int .i64 tk,.agg #[.int .i64 f.kind,.int .i64 f.frm,.int .i64 f.view,.int .i64 f.place,.int .i64 f.agreed,.int .i64 f.last,.int .i64 f.line.c,.int .i64 f.line.t,.string ⟨f.line.s.toArray⟩,.slice a f.lines.length cap]] w (SentRet w K v ⟨false,tk,b⟩):=by
  obtain ⟨io,hio,hio0,hio1,hio2⟩:=info_parts Tryz.info190
  have HP:=hid (fun z hz=>refPack_any { f with frm:=v.me } a cap z hz hn hcap)
  rw [hb] at HP
  unfold Fr.val sla at HP
  dsimp only at HP
  have hlt:=h.lt
  have HL:=hid hl
  have HN:=hid (heap_alloc_new w (.cells #[.int .i64 f.kind,.int .i64 f.frm,.int .i64 f.view,.int .i64 f.place,.int .i64 f.agreed,.int .i64 f.last,.int .i64 f.line.c,.int .i64 f.line.t,.string ⟨f.line.s.toArray⟩,.slice a f.lines.length cap] 30))
  have HB:=hid ((Below.refl _ w).alloc (Nat.le_refl _) (.cells #[.int .i64 f.kind,.int .i64 f.frm,.int .i64 f.view,.int .i64 f.place,.int .i64 f.agreed,.int .i64 f.last,.int .i64 f.line.c,.int .i64 f.line.t,.string ⟨f.line.s.toArray⟩,.slice a f.lines.length cap] 30))
  have HA:=hid (h.below HB.out)
  have HV:=hid h
  have HX:Hid (∀ y g c,RChg w y K v (v.push ⟨false,tk,b⟩ g c)→SentRet w K v ⟨false,tk,b⟩ (.returned (.tuple #[])) y):=fun y g c hh=>⟨rfl,g,c,hh⟩
  generalize SentRet w K v ⟨false,tk,b⟩=Q at *
  clear h hb hl
  go_enter Tryz.func107,Tryz.ntmps107
  have c1:(w.alloc (.cells #[.int .i64 f.kind,.int .i64 f.frm,.int .i64 f.view,.int .i64 f.place,.int .i64 f.agreed,.int .i64 f.last,.int .i64 f.line.c,.int .i64 f.line.t,.string ⟨f.line.s.toArray⟩,.slice a f.lines.length cap] 30)).cell? ⟨K,1,none⟩=some (.int .i64 v.me):=cell_of_heap HA.out.blk 1
  go_wp2_with fail
  refine (HP.out _ (HL.out.alloc _)).mono ?_
  rintro e X2 ⟨rfl,hb2⟩
  rw [World.size_alloc] at hb2
  have hb02:Below w.heap.size w X2:=((Below.refl _ w).alloc (Nat.le_refl _) _).trans (hb2.mono (by omega))
  have HA2:=hid (HV.out.below hb02)
  have HB02:=hid (hb02.alloc hb02.size (.cells #[.bool false,.int .i64 tk,.string ⟨b.toArray⟩] 190))
  have c48:X2.cell? ⟨K,48,none⟩=some (.slice (v.sg.map fun k=>⟨k,0,none⟩) v.os.length v.sc):=cell_of_heap HA2.out.blk 48
  have f48:X2.frozen? ⟨K,48,none⟩=false:=frozen_of_heap HA2.out.blk 48
  have HA3:=hid (HA2.out.below ((Below.refl _ X2).alloc (Nat.le_refl _) (.cells #[.bool false,.int .i64 tk,.string ⟨b.toArray⟩] 190)))
  clear hb2 hb02 c1 HN HB HA HP HL
  generalize hos:v.os.length=n at *
  have HOS:=hid hos
  have HOW:Hid (OwnRow (X2.alloc (.cells #[.bool false,.int .i64 tk,.string ⟨b.toArray⟩] 190)) 190 3 v.sg n v.sc):=by show OwnRow _ _ _ _ _ _;rw [← hos];exact HA3.out.so.own
  clear hos
  go_wp2_with (at_builtin;refine wpList_app _ rfl (.tmp 23) (.tmp 27) 130 rfl 190 io (.agg #[.bool false,.int .i64 0,.string ⟨#[]⟩]) 3 32 Tryz.underlying130 hio hio0 hio1 hio2 rfl v.sg n v.sc (by rfl) HOW.out ⟨X2.heap.size,0,none⟩ 1 1 [.bool false,.int .i64 tk,.string ⟨b.toArray⟩] rfl rfl ?c1 ?c2 (by omega) (by omega) (by omega) ?_)
  case c1=>exact World.news_of_block (heap_alloc_new X2 _)
  case c2=>intro u hu;simp at hu;rcases hu with rfl | rfl | rfl <;> rfl
  intro g c w3 Q
  have HPU:=hid (HA3.out.push (x:=⟨false,tk,b⟩) HOS.out Q)
  have hne:v.sg≠some K:=HA3.out.sK
  have m48:w3.cell? ⟨K,48,none⟩=some (.slice (v.sg.map fun k=>⟨k,0,none⟩) n v.sc):=Q.touch.cell (cell_alloc_keep c48 _) hne
  have fm48:w3.frozen? ⟨K,48,none⟩=false:=frozen_of_heap (Q.touch.heapAt HA3.out.blk hne) 48
  clear Q c48 f48 hne
  go_wp2
  go_end0
  exact HX.out _ g c (RChg.of HB02.out HV.out HPU.out)
end
end
end Go.Proofs.YtolififimldmlaaGreat
