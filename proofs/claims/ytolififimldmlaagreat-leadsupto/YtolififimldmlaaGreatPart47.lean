import Derived.Test.YtolififimldmlaaGreatPart46
import Derived.Test.YtolififimldmlaaGreatPart13
set_option linter.unusedVariables false
set_option linter.unusedSimpArgs false
set_option maxRecDepth 100000
set_option maxHeartbeats 16000000
namespace Go.Proofs.YtolififimldmlaaGreat
section
open Go.RowKit
theorem natOf {x:Int} (h:0≤x):((x.toNat:Nat):Int)=x:=by omega
section
variable (s:LK) (gd:Option Nat) (cd:Nat) (gl:Option Nat) (cl:Nat) (gf:Option Nat) (cf:Nat) (B:Nat) (w:World) (h:(s.pv gd cd gl cl gf cf).At w B) (hl:s.lost=[]) (hi:IvL s)
include h hl hi
theorem hearPrepD (hm:s.me≠0) (frm p n:Int) (hp:0≤p∧p≤20) (hn:0≤n∧n≤20) (l:Ln) (hf:l.fits) (f:Fr) (ef:f.frm=frm) (ep:f.place=p) (en:f.agreed=n) (el:f.line=l) (z:World) (hz:Below w.heap.size w z) :
    Calls Tryz.prog 43 #[.pointer (some ⟨B,0,none⟩),.iface 153 (.agg #[.int .i64 frm,.int .i64 0,.int .i64 p,.int .i64 n,.int .i64 l.c,.int .i64 l.t,.string ⟨l.s.toArray⟩])] z (HearDid w B s (s.pv gd cd gl cl gf cf) (s.prepared f)):=by
  have hk:=hi.conf.1
  have h0:=hi.v0
  have h20:=hi.l20
  have hag:=hi.ag
  have hd:=hi.len
  refine (hearPrepareT (HearDid w B s (s.pv gd cd gl cl gf cf) (s.prepared f)) B z frm 0 p n l.c l.t l.s (fun z1 hz1=>?_)).mono (fun e y q=>q.2)
  have hw1:=hz.trans (hz1.mono hz.size)
  refine hearKeeperOwnPrepare _ _ B z1 (h.below hw1) frm 0 p n l.c l.t l.s h0.1.symm (fun z2 hz2=>?_)
  have hw2:=hw1.trans (hz2.mono hw1.size)
  refine hearOwnIn _ _ B z2 (h.below hw2) hk h0.1 h0.2 (fun e=>hm e.symm) _ (fun z3 hz3=>?_)
  have hw3:=hw2.trans (hz3.mono hw2.size)
  refine hearInViewPrepare _ B z3 frm 0 p n l.c l.t l.s (fun z4 hz4=>?_)
  have hw4:=hw3.trans (hz4.mono hw3.size)
  have H:=fun Q=>hearPrepareV _ B z4 (h.below hw4) Q hl h20 (by show s.agreed≤20;omega) (by show s.d.length≤9900000;omega) hi.arm frm 0 p.toNat n.toNat (by omega) (by omega) l hf
  rw [natOf hp.1,natOf hn.1] at H
  subst ef ep en el
  refine H _ ?_ ?_ ?_ ?_ ?_
  · intro hq ht e y hh
    refine HearDid.form ?_
    change f.line.t≤turnOf s.m.ls f.line.c at ht
    have hq':f.place=s.m.ls.length+1:=by change f.place.toNat=s.m.ls.length+1 at hq;omega
    unfold LK.prepared
    rw [if_pos hq',if_pos ht]
    exact .inl ⟨rfl,hl,gd,cd,gl,cl,gf,cf,hh.base h hw4⟩
  · intro hq ht ha e y gf' cf' hh
    change s.arm=1 at ha
    refine HearDid.form ?_
    have hq':f.place=s.m.ls.length+1:=by change f.place.toNat=s.m.ls.length+1 at hq;omega
    have ht':¬ f.line.t≤turnOf s.m.ls f.line.c:=by change turnOf s.m.ls f.line.c < f.line.t at ht;omega
    unfold LK.prepared
    rw [if_pos hq',if_neg ht',if_pos ha]
    exact .inr ⟨_,gf',cf',rfl,hh.base h hw4⟩
  · intro hq ht ha e y gd' cd' gl' cl' hh
    change s.arm≠1 at ha
    refine HearDid.form ?_
    have hq':f.place=s.m.ls.length+1:=by change f.place.toNat=s.m.ls.length+1 at hq;omega
    have ht':¬ f.line.t≤turnOf s.m.ls f.line.c:=by change turnOf s.m.ls f.line.c < f.line.t at ht;omega
    unfold LK.prepared
    rw [if_pos hq',if_neg ht',if_neg ha]
    refine .inl ⟨rfl,hl,gd',cd',gl',cl',gf,cf,?_⟩
    have:=hh.base h hw4
    have e1:(s.m.ls++[f.line]).length=s.m.ls.length+1:=by simp
    unfold LK.holding LK.wrote LK.pv
    dsimp only
    rw [e1]
    exact this
  · intro hq e y hh
    refine HearDid.form ?_
    change s.m.ls.length+1 < f.place.toNat at hq
    unfold LK.prepared
    rw [if_neg (by omega),if_pos (by omega)]
    refine .inl ⟨rfl,hl,gd,cd,gl,cl,gf,cf,?_⟩
    have:=hh.base h hw4
    unfold LK.lagging
    dsimp only
    rw [h0.1]
    exact this
  · intro hq e y hh
    refine HearDid.form ?_
    change f.place.toNat≤s.m.ls.length at hq
    unfold LK.prepared
    rw [if_neg (by omega),if_neg (by omega)]
    exact .inl ⟨rfl,hl,gd,cd,gl,cl,gf,cf,hh.base h hw4⟩
theorem hearBeatD (hm:s.me≠0) (frm n:Int) (hn:0≤n∧n≤20) (f:Fr) (ef:f.frm=frm) (en:f.agreed=n) (z:World) (hz:Below w.heap.size w z) :
    Calls Tryz.prog 43 #[.pointer (some ⟨B,0,none⟩),.iface 156 (.agg #[.int .i64 frm,.int .i64 0,.int .i64 n])] z (HearDid w B s (s.pv gd cd gl cl gf cf) (s.beaten f)):=by
  have hk:=hi.conf.1
  have h0:=hi.v0
  have h20:=hi.l20
  have hag:=hi.ag
  refine (hearBeatT (HearDid w B s (s.pv gd cd gl cl gf cf) (s.beaten f)) B z frm 0 n (fun z1 hz1=>?_)).mono (fun e y q=>q.2)
  have hw1:=hz.trans (hz1.mono hz.size)
  refine hearKeeperOwnBeat _ _ B z1 (h.below hw1) frm 0 n h0.1.symm (fun z2 hz2=>?_)
  have hw2:=hw1.trans (hz2.mono hw1.size)
  refine hearOwnIn _ _ B z2 (h.below hw2) hk h0.1 h0.2 (fun e=>hm e.symm) _ (fun z3 hz3=>?_)
  have hw3:=hw2.trans (hz3.mono hw2.size)
  refine hearInViewBeat _ B z3 frm 0 n (fun z4 hz4=>?_)
  have hw4:=hw3.trans (hz4.mono hw3.size)
  have H:=fun Q=>hearBeatV _ B z4 (h.below hw4) Q frm 0 n.toNat (by omega) (by show s.agreed≤20;omega) h20
  rw [natOf hn.1] at H
  subst ef en
  refine H _ ?_ ?_
  · intro hq e y hh
    refine HearDid.form ?_
    change s.m.ls.length < f.agreed.toNat at hq
    unfold LK.beaten
    rw [if_pos (by omega)]
    refine .inl ⟨rfl,hl,gd,cd,gl,cl,gf,cf,?_⟩
    have:=hh.base h hw4
    unfold LK.lagging
    dsimp only
    rw [h0.1]
    exact this
  · intro hq e y hh
    refine HearDid.form ?_
    change f.agreed.toNat≤s.m.ls.length at hq
    unfold LK.beaten
    rw [if_neg (by omega)]
    exact .inl ⟨rfl,hl,gd,cd,gl,cl,gf,cf,hh.base h hw4⟩
theorem hearBeginD (hm:s.me≠0) (frm n:Int) (hn:0≤n∧n≤20) (f:Fr) (ef:f.frm=frm) (en:f.agreed=n) (hok:linesOk f.lines=true) (z:World) (hz:Below w.heap.size w z) (g:Option Nat) (c:Nat) (ho:OwnLines w z g c f.lines) :
    Calls Tryz.prog 43 #[.pointer (some ⟨B,0,none⟩),.iface 158 (.agg #[.int .i64 frm,.int .i64 0,.int .i64 n,.slice (g.map fun k=>(⟨k,0,none⟩:Addr)) f.lines.length c])] z (HearDid w B s (s.pv gd cd gl cl gf cf) (s.begun f)):=by
  have hk:=hi.conf.1
  have h0:=hi.v0
  have h20:=hi.l20
  have hag:=hi.ag
  have hd:=hi.len
  refine (hearBeginT (HearDid w B s (s.pv gd cd gl cl gf cf) (s.begun f)) B z frm 0 n _ _ _ (fun z1 hz1=>?_)).mono (fun e y q=>q.2)
  have hw1:=hz.trans (hz1.mono hz.size)
  refine hearKeeperOwnBegin _ _ B z1 (h.below hw1) frm 0 n _ _ _ h0.1.symm (fun z2 hz2=>?_)
  have hw2:=hw1.trans (hz2.mono hw1.size)
  refine hearOwnIn _ _ B z2 (h.below hw2) hk h0.1 h0.2 (fun e=>hm e.symm) _ (fun z3 hz3=>?_)
  have hw3:=hw2.trans (hz3.mono hw2.size)
  refine hearInViewBegin _ B z3 frm 0 n _ _ _ (fun z4 hz4=>?_)
  have hw4:=hw3.trans (hz4.mono hw3.size)
  have ho4:=((((ho.below hz1).below hz2).below hz3).below hz4)
  have hlt:B < w.heap.size:=heap_lt h.blk
  have H:=fun Q=>hearBeginV _ B z4 (h.below hw4) Q hl h0.1 h0.2 h20 (by show s.agreed≤20;omega) (by show s.d.length≤9900000;omega) hi.arm frm n.toNat (by omega) (g.map fun k=>(⟨k,0,none⟩:Addr)) c f.lines ho4.at_ (by
    intro p e _ e2
    cases hg:g with
    | none=>rw [hg] at e;cases e
    | some k =>
      rw [hg] at e
      cases e
      have:=ho4.new k hg
      have e2:k=B:=e2
      omega) hok
  rw [natOf hn.1] at H
  subst ef en
  refine H _ ?_ ?_ ?_
  · intro hq ha e y gf' cf' hh
    change s.arm=1 at ha
    change s.m.ls.length < f.lines.length at hq
    refine HearDid.form ?_
    unfold LK.begun
    rw [if_pos hq,if_pos ha]
    exact .inr ⟨_,gf',cf',rfl,hh.base h hw4⟩
  · intro hq ha e y gd' cd' gl' cl' hh
    change s.arm≠1 at ha
    change s.m.ls.length < f.lines.length at hq
    refine HearDid.form ?_
    unfold LK.begun
    rw [if_pos hq,if_neg ha]
    exact .inl ⟨rfl,hl,gd',cd',gl',cl',gf,cf,hh.base h hw4⟩
  · intro hq e y hh
    refine HearDid.form ?_
    change f.lines.length≤s.m.ls.length at hq
    unfold LK.begun
    rw [if_neg (by omega)]
    exact .inl ⟨rfl,hl,gd,cd,gl,cl,gf,cf,hh.base h hw4⟩
theorem hearLagD (f:Fr) (frm:Int) (ef:f.frm=frm) (h8:f.kind=8) (z:World) (hz:Below w.heap.size w z) :
    Calls Tryz.prog 43 #[.pointer (some ⟨B,0,none⟩),.iface 209 (.agg #[.int .i64 frm,.int .i64 0])] z (HearDid w B s (s.pv gd cd gl cl gf cf) (s.heardK f)):=by
  have hk:=hi.conf.1
  have h0:=hi.v0
  have h20:=hi.l20
  subst ef
  refine (hearLagT (HearDid w B s (s.pv gd cd gl cl gf cf) (s.heardK f)) B z f.frm 0 (fun z1 hz1=>?_)).mono (fun e y q=>q.2)
  have hw1:=hz.trans (hz1.mono hz.size)
  refine hearKeeperOwnLag _ _ B z1 (h.below hw1) f.frm 0 h0.1.symm (fun z2 hz2=>?_)
  have hw2:=hw1.trans (hz2.mono hw1.size)
  by_cases hm:s.me=0
  · refine hearOwnHead _ _ B z2 (h.below hw2) hk (by show 0≤s.m.view;omega) (by show s.m.last=s.m.view;omega) (by show s.m.view % s.kp=s.me;rw [h0.1,hm];rfl) _ (fun z3 hz3=>?_)
    have hw3:=hw2.trans (hz3.mono hw2.size)
    refine (hearAsHeadLag _ B z3 (h.below hw3) f.frm h20).mono ?_
    rintro e y ⟨_,hh⟩
    refine HearDid.form ?_
    unfold LK.heardK
    rw [if_pos hm,if_neg (by omega)]
    exact .inl ⟨rfl,hl,gd,cd,gl,cl,gf,cf,hh.base h hw3⟩
  · refine hearOwnIn _ _ B z2 (h.below hw2) hk h0.1 h0.2 (fun e=>hm e.symm) _ (fun z3 hz3=>?_)
    have hw3:=hw2.trans (hz3.mono hw2.size)
    refine hearInViewLag _ B z3 f.frm 0 ?_
    unfold LK.heardK
    rw [if_neg hm,if_neg (by omega),if_neg (by omega),if_neg (by omega)]
    exact .inl ⟨rfl,hl,gd,cd,gl,cl,gf,cf,OutsChg.nil (Chg.same h hw3)⟩
theorem hearHoldD (f:Fr) (frm pl:Int) (ef:f.frm=frm) (ep:f.place=pl) (h3:f.kind=3) (hfr:0≤frm∧frm < 5) (hpl:0≤pl) (z:World) (hz:Below w.heap.size w z) :
    Calls Tryz.prog 43 #[.pointer (some ⟨B,0,none⟩),.iface 204 (.agg #[.int .i64 frm,.int .i64 0,.int .i64 pl])] z (HearDid w B s (s.pv gd cd gl cl gf cf) (s.heardK f)):=by
  have hk:=hi.conf.1
  have h0:=hi.v0
  have h20:=hi.l20
  have hkn:=hi.conf.nat
  have hmr:0≤s.me∧s.me < s.kp.toNat:=by have:=hi.conf.2;omega
  subst ef ep
  refine (hearHoldT (HearDid w B s (s.pv gd cd gl cl gf cf) (s.heardK f)) B z f.frm 0 f.place (fun z1 hz1=>?_)).mono (fun e y q=>q.2)
  have hw1:=hz.trans (hz1.mono hz.size)
  refine hearKeeperOwnHold _ _ B z1 (h.below hw1) f.frm 0 f.place h0.1.symm (fun z2 hz2=>?_)
  have hw2:=hw1.trans (hz2.mono hw1.size)
  by_cases hm:s.me=0
  · refine hearOwnHead _ _ B z2 (h.below hw2) hk (by show 0≤s.m.view;omega) (by show s.m.last=s.m.view;omega) (by show s.m.view % s.kp=s.me;rw [h0.1,hm];rfl) _ (fun z3 hz3=>?_)
    have hw3:=hw2.trans (hz3.mono hw2.size)
    refine hearAsHeadHold _ B z3 f.frm 0 f.place (fun z4 hz4=>?_)
    have hw4:=hw3.trans (hz4.mono hw3.size)
    unfold LK.heardK
    rw [if_pos hm,if_pos h3]
    rcases Int.lt_or_le (s.m.ls.length:Int) f.place with q | q
    · refine (hearHoldFar _ B z4 (h.below hw4) s.kp.toNat hkn.2.symm hkn.1 hmr (by have:=hi.ag;show s.agreed≤20;omega) f.frm 0 f.place q _ rfl hi.few).mono ?_
      intro e y hh
      refine HearDid.form ?_
      unfold LK.held
      rw [if_pos q]
      exact .inl ⟨rfl,hl,gd,cd,gl,cl,gf,cf,hh.base h hw4⟩
    · have hh1:∀ j,0≤holdsSet s.hs f.frm.toNat (max (s.hs f.frm.toNat) f.place) j∧holdsSet s.hs f.frm.toNat (max (s.hs f.frm.toNat) f.place) j≤s.m.ls.length:=by
        intro j
        have:=hi.hs j
        have:=hi.hs f.frm.toNat
        unfold holdsSet
        split <;> omega
      have hge:=heldFew_ge _ s.me s.kp.toNat hkn.1 hmr (fun j=>(hh1 j).1)
      have hle:=heldFew_le _ s.me s.kp.toNat hkn.1 hmr s.m.ls.length (fun j=>(hh1 j).2)
      refine (hearHoldV _ B z4 (h.below hw4) s.kp.toNat hkn.2.symm hkn.1 hmr h20 f.frm 0 f.place hfr q _ rfl (heldFew (holdsSet s.hs f.frm.toNat (max (s.hs f.frm.toNat) f.place)) s.me s.kp.toNat).toNat (natOf hge).symm (by show _≤s.m.ls.length;omega) hi.ag).mono ?_
      rintro e y ⟨g,c,gs,cs,h1,h2,h4⟩
      refine HearDid.form ?_
      unfold LK.held
      rw [if_neg (by omega)]
      refine .inl ⟨rfl,hl,gd,cd,gl,cl,gf,cf,OutsChg.base (x:=z4) ⟨g,c,gs,cs,?_,h2,h4,?_⟩ h hw4⟩
      · rw [toldL_len];exact h1
      · intro k e e2
        have:=(h.below hw4).ownlt (k:=k) e2
        rcases e with e | ⟨j,hj,e⟩
        · have:=h2.new k e;omega
        · have:=(h2.bs j hj).new k e;omega
  · refine hearOwnIn _ _ B z2 (h.below hw2) hk h0.1 h0.2 (fun e=>hm e.symm) _ (fun z3 hz3=>?_)
    have hw3:=hw2.trans (hz3.mono hw2.size)
    refine hearInViewHold _ B z3 f.frm 0 f.place ?_
    unfold LK.heardK
    rw [if_neg hm,if_neg (by omega),if_neg (by omega),if_neg (by omega)]
    exact .inl ⟨rfl,hl,gd,cd,gl,cl,gf,cf,OutsChg.nil (Chg.same h hw3)⟩
end
end
section
theorem linesOk_snoc {ls:List Ln} {l:Ln} (h:linesOk ls=true) (hl:l.ok=true) (ht:turnOf ls l.c < l.t) (h20:ls.length < 20):linesOk (ls++[l])=true:=by
  unfold linesOk at h ⊢
  simp only [Bool.and_eq_true,decide_eq_true_eq] at h ⊢
  rw [List.length_append,List.length_singleton,linesRise_succ]
  refine ⟨?_,by omega⟩
  rw [Bool.and_eq_true]
  constructor
  · have h1:=h.1
    unfold linesRise at h1 ⊢
    rw [List.all_eq_true] at h1 ⊢
    intro i hi
    have:=h1 i hi
    rw [List.mem_range] at hi
    unfold riseAt at this ⊢
    rw [getD_at ls i _ hi] at this
    rw [getD_at (ls++[l]) i _ (by rw [List.length_append];omega),List.getElem_append_left hi,List.take_append_of_le_length (by omega)]
    exact this
  · unfold riseAt
    rw [getD_at (ls++[l]) ls.length _ (by simp),List.getElem_append_right (Nat.le_refl _),List.take_left]
    simp only [Nat.sub_self,List.getElem_cons_zero,Bool.and_eq_true,decide_eq_true_eq]
    exact ⟨hl,ht⟩
theorem doesM_line {m:Mm} {l:Ln} (hv:m.view=0∧m.last=0) (h:linesOk m.ls=true) (hl:l.ok=true) (ht:turnOf m.ls l.c < l.t) (h20:m.ls.length < 20):doesM m (1 :: lineBytes l)=some ⟨m.view,m.last,m.ls++[l]⟩:=by
  unfold doesM
  rw [candM_line m l (Ln.ok_fits hl)]
  simp only [Option.bind_some]
  rw [if_pos]
  unfold okM
  simp only [Bool.and_eq_true,decide_eq_true_eq]
  exact ⟨⟨by omega,by omega⟩,linesOk_snoc h hl ht h20⟩
theorem doesM_all (m:Mm) {ls:List Ln} (h:linesOk ls=true):doesM m (3 :: 0 :: linesBytes ls)=some ⟨0,0,ls⟩:=by
  unfold doesM
  rw [candM_all m ls h]
  simp only [Option.bind_some]
  rw [if_pos]
  unfold okM
  simp only [Bool.and_eq_true,decide_eq_true_eq]
  exact ⟨⟨by omega,by omega⟩,h⟩
structure Did.Ok (d:Did):Prop where
  iv:IvL d.st
  n20:d.os.length≤20
  bs:∀ o ∈ d.os,o.b.length≤400
theorem Did.Ok.no {s:LK} (h:IvL s) (er:Int):(Did.mk [] er s).Ok:=⟨h,Nat.zero_le _,fun o ho=>absurd ho (by simp)⟩
theorem IvL.crash {s:LK} (h:IvL s) (inner:List UInt8) (m':Mm) (hi:inner.length≤250) (hd:doesM s.m inner=some m') (hv:m'.view=0∧m'.last=0) (hn:s.m.ls.length < m'.ls.length):IvL (s.crash inner) :=
  ⟨h.conf,h.v0,h.rd,h.len,h.lok,h.ag,h.hs,h.few,h.arm,.inr ⟨inner,m',rfl,hi,hd,hv.1,hv.2,hn⟩⟩
theorem armNext_in {a:Int} (h:0≤a∧a≤9223372036854775807):0≤armNext a∧armNext a≤9223372036854775807:=by
  unfold armNext;split <;> omega
theorem okM_lok {m:Mm} (h:okM m=true):linesOk m.ls=true:=by
  unfold okM at h
  simp only [Bool.and_eq_true] at h
  exact h.2
theorem IvL.wrote {s:LK} (h:IvL s) (hl:s.lost=[]) (inner:List UInt8) (m':Mm) (hi:inner.length≤250) (hd:doesM s.m inner=some m') (hv:m'.view=0∧m'.last=0) (hn:s.m.ls.length < m'.ls.length):IvL (s.wrote inner m'):=by
  have h1:=h.len
  have h2:=h.ag
  refine ⟨h.conf,hv,readD_rec h.rd inner (by omega) hd,?_,okM_lok (doesM_ok hd),?_,fun j=>?_,h.few,armNext_in h.arm,.inl hl⟩
  · show (s.d++recBytes inner).length≤9000000+300 * m'.ls.length
    rw [List.length_append,recBytes_len];omega
  · show s.agreed≤m'.ls.length
    omega
  · have:=h.hs j
    show 0≤s.hs j∧s.hs j≤m'.ls.length
    omega
theorem ConfOk.rng {kp me pa:Int} (h:ConfOk kp me pa):0≤me∧me < kp.toNat:=by
  have:=h.nat.2
  have:=h.2
  omega
theorem IvL.noHolds {s:LK} (h:IvL s):IvL { s with hs:=fun _=>0 } :=
  ⟨h.conf,h.v0,h.rd,h.len,h.lok,h.ag,fun j=>⟨Int.le_refl _,Int.natCast_nonneg _⟩,by
    show heldFew (fun _=>0) s.me s.kp.toNat≤s.agreed
    rw [heldFew_zero s.me _ h.conf.nat.1 h.conf.rng]
    exact Int.natCast_nonneg _,h.arm,h.lost⟩
theorem IvL.holding {s:LK} (h:IvL s) (tk a:Int):(s.holding tk a).Ok:=by
  have h1:=h.ag
  have h2:=h.few
  refine ⟨⟨h.conf,h.v0,h.rd,h.len,h.lok,?_,h.hs,?_,h.arm,h.lost⟩,by show 1≤20;omega,fun o ho=>?_⟩
  · show min (max s.agreed a.toNat) s.m.ls.length≤s.m.ls.length
    omega
  · show heldFew s.hs s.me s.kp.toNat≤((min (max s.agreed a.toNat) s.m.ls.length:Nat):Int)
    omega
  · unfold LK.holding at ho
    simp only [List.mem_singleton] at ho
    subst ho
    exact packS_len _
theorem IvL.lagging {s:LK} (h:IvL s) (tk:Int):(s.lagging tk).Ok:=by
  refine ⟨h,by show 1≤20;omega,fun o ho=>?_⟩
  unfold LK.lagging at ho
  simp only [List.mem_singleton] at ho
  subst ho
  exact packS_len _
theorem IvL.held {s:LK} (h:IvL s) (f:Fr):(s.held f).Ok:=by
  unfold LK.held
  split
  · exact Did.Ok.no h 0
  · rename_i hp
    have h1:=h.ag
    have h20:=h.l20
    have hh:∀ j,0≤holdsSet s.hs f.frm.toNat (max (s.hs f.frm.toNat) f.place) j∧holdsSet s.hs f.frm.toNat (max (s.hs f.frm.toNat) f.place) j≤s.m.ls.length:=by
      intro j
      have:=h.hs j
      have:=h.hs f.frm.toNat
      unfold holdsSet
      split <;> omega
    have hle:=heldFew_le _ s.me s.kp.toNat h.conf.nat.1 h.conf.rng s.m.ls.length (fun j=>(hh j).2)
    generalize holdsSet s.hs f.frm.toNat (max (s.hs f.frm.toNat) f.place)=hs' at *
    generalize hF:heldFew hs' s.me s.kp.toNat=F at *
    refine ⟨⟨h.conf,h.v0,h.rd,h.len,h.lok,?_,hh,?_,h.arm,h.lost⟩,?_,fun o ho=>?_⟩
    · show max s.agreed F.toNat≤s.m.ls.length
      omega
    · show heldFew hs' s.me s.kp.toNat≤((max s.agreed F.toNat:Nat):Int)
      rw [hF];omega
    · show (toldL s.m s.agreed (max s.agreed F.toNat - s.agreed)).length≤20
      rw [toldL_len];omega
    · change o ∈ toldL s.m s.agreed (max s.agreed F.toNat - s.agreed) at ho
      unfold toldL at ho
      rw [List.mem_map] at ho
      obtain ⟨j,_,rfl⟩:=ho
      exact packS_len _
theorem toAll_ok (s:LK) (g:Int→Fr) (hc:ConfOk s.kp s.me s.pa):((othersL s.me s.kp.toNat).map fun t=>(⟨false,t,packS (g t)⟩:OutG)).length≤20∧∀ o ∈ ((othersL s.me s.kp.toNat).map fun t=>(⟨false,t,packS (g t)⟩:OutG)),o.b.length≤400:=by
  constructor
  · rw [List.length_map]
    have:=othersL_len s.me s.kp.toNat
    have:=hc.nat.1
    omega
  · intro o ho
    rw [List.mem_map] at ho
    obtain ⟨j,_,rfl⟩:=ho
    exact packS_len _
theorem lineRec_len {l:Ln} (h:l.ok=true):(1 :: lineBytes l).length≤250:=by
  have:=Ln.ok_len h
  unfold lineBytes
  simp
  omega
theorem IvL.say {s:LK} (h:IvL s) (hl:s.lost=[]) (l:Ln) (hok:l.ok=true):(s.say l).Ok:=by
  unfold LK.say
  split
  · exact Did.Ok.no h 0
  · split
    · refine ⟨h,?_,fun o ho=>?_⟩
      · show (tellsN s.m l s.agreed).length≤20
        unfold tellsN
        rw [List.length_map]
        have h1:=List.length_filter_le (fun n=>sameTurn l (s.m.ls.getD n Ln.zero)) (List.range s.agreed)
        rw [List.length_range] at h1
        have:=h.ag
        have:=h.l20
        omega
      · change o ∈ tellsN s.m l s.agreed at ho
        unfold tellsN at ho
        rw [List.mem_map] at ho
        obtain ⟨j,_,rfl⟩:=ho
        exact packS_len _
    · split
      · exact Did.Ok.no h 0
      · rename_i h1 h2 h3
        have hd:=doesM_line h.v0 h.lok hok (by omega) (by omega)
        split
        · exact Did.Ok.no (h.crash _ _ (lineRec_len hok) hd h.v0 (by simp)) 4
        · have ha:=toAll_ok s (fun _=>⟨2,s.me,s.m.view,(s.m.ls.length+1:Nat),s.agreed,0,l,[]⟩) h.conf
          exact ⟨h.wrote hl _ _ (lineRec_len hok) hd h.v0 (by simp),ha.1,ha.2⟩
theorem IvL.prepared {s:LK} (h:IvL s) (hl:s.lost=[]) (f:Fr) (hok:f.line.ok=true) (hp:f.place≤20):(s.prepared f).Ok:=by
  unfold LK.prepared
  split
  · split
    · exact Did.Ok.no h 0
    · rename_i h1 h2
      have hd:=doesM_line h.v0 h.lok hok (by omega) (by omega)
      split
      · exact Did.Ok.no (h.crash _ _ (lineRec_len hok) hd h.v0 (by simp)) 4
      · exact (h.wrote hl _ _ (lineRec_len hok) hd h.v0 (by simp)).holding _ _
  · split
    · exact h.lagging _
    · exact h.holding _ _
theorem IvL.beaten {s:LK} (h:IvL s) (f:Fr):(s.beaten f).Ok:=by
  unfold LK.beaten
  split
  · exact h.lagging _
  · exact h.holding _ _
theorem IvL.begun {s:LK} (h:IvL s) (hl:s.lost=[]) (f:Fr) (hok:linesOk f.lines=true):(s.begun f).Ok:=by
  unfold LK.begun
  have hb:=linesBytes_len hok
  have hb2:(3 :: 0 :: linesBytes f.lines).length≤250:=by simp only [List.length_cons];omega
  have hd:=doesM_all s.m hok
  split
  · rename_i h1
    split
    · exact Did.Ok.no (h.crash _ _ hb2 hd ⟨rfl,rfl⟩ h1) 4
    · exact (h.wrote hl _ _ hb2 hd ⟨rfl,rfl⟩ h1).noHolds.holding _ _
  · exact h.holding _ _
theorem IvL.heard {s:LK} (h:IvL s) (b:List UInt8):(s.heard b).Ok:=by
  unfold LK.heard
  split
  · exact Did.Ok.no h 5
  · rename_i hd
    have hl:s.lost=[]:=by
      unfold LK.dead at hd
      cases e:s.lost with
      | nil=>rfl
      | cons a l=>rw [e] at hd;exact absurd rfl hd
    cases hR:unpackR b with
    | none=>exact Did.Ok.no h 3
    | some f =>
      show (s.heardF f).Ok
      obtain ⟨fok,_,_⟩:=unpackR_ok hR
      obtain ⟨_,hpl,_⟩:=Fr.okP fok
      have parts:=Fr.ok_parts fok
      unfold LK.heardF
      split
      · exact Did.Ok.no h 3
      · split
        · rename_i e
          exact h.say hl _ (parts.2.2.1 (by rw [e];decide))
        · split
          · exact Did.Ok.no h 3
          · split
            · exact Did.Ok.no h 3
            · unfold LK.heardK
              split
              · split
                · exact h.held f
                · refine ⟨h,by show 1≤20;omega,fun o ho=>?_⟩
                  simp only [List.mem_singleton] at ho
                  subst ho
                  exact packS_len _
              · split
                · rename_i e
                  exact h.prepared hl f (parts.2.2.1 (by rw [e];decide)) hpl.2
                · split
                  · exact h.beaten f
                  · split
                    · rename_i e
                      exact h.begun hl f (parts.2.2.2.2.1 (by rw [e];decide))
                    · exact Did.Ok.no h 0
theorem IvL.tick {s:LK} (h:IvL s):s.tick.Ok:=by
  unfold LK.tick
  split
  · exact Did.Ok.no h 5
  · have ha:=toAll_ok s s.reminder h.conf
    exact ⟨h,ha.1,ha.2⟩
theorem IvL.armed {s:LK} (h:IvL s) (n:Int) (hn:n≤9223372036854775807):IvL (s.armed n) :=
  ⟨h.conf,h.v0,h.rd,h.len,h.lok,h.ag,h.hs,h.few,by show 0≤max n 0∧max n 0≤9223372036854775807;omega,h.lost⟩
end
end Go.Proofs.YtolififimldmlaaGreat
