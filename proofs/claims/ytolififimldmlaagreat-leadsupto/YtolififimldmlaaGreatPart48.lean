import Derived.Test.YtolififimldmlaaGreatPart47
set_option linter.unusedVariables false
set_option linter.unusedSimpArgs false
set_option maxRecDepth 100000
set_option maxHeartbeats 16000000
namespace Go.Proofs.YtolififimldmlaaGreat
section
open Go.RowKit
def LK.dv (s:LK) (gd:Option Nat) (cd:Nat) (gl:Option Nat) (cl:Nat) (gf:Option Nat) (cf:Nat):PV:=⟨0,0,0,s.d,s.mv,0,s.lost,s.av,fun _=>0,gd,cd,gl,cl,gf,cf⟩
theorem LK.dead_lost {s:LK} (hd:s.dead=true):0 < s.lost.length:=by
  unfold LK.dead at hd
  cases e:s.lost with
  | nil=>rw [e] at hd;cases hd
  | cons a l=>simp
theorem LK.live_lost {s:LK} (hd:s.dead=false):s.lost=[]:=by
  unfold LK.dead at hd
  cases e:s.lost with
  | nil=>rfl
  | cons a l=>rw [e] at hd;cases hd
theorem kis_dead {w:World} {K:Nat} {F:Nat→Prop} {s:LK} (h:KIs_ w K F s) (hd:s.dead=true):∃ gd cd gl cl gf cf,(s.dv gd cd gl cl gf cf).At w K∧∀ k,F k↔(s.dv gd cd gl cl gf cf).own K k:=by
  obtain ⟨gd,cd,gl,cl,gf,cf,h1,h2⟩:=h
  simp only [hd,if_true] at h1
  exact ⟨gd,cd,gl,cl,gf,cf,h1,h2⟩
theorem kis_of_dead {w:World} {K:Nat} {s:LK} {gd:Option Nat} {cd:Nat} {gl:Option Nat} {cl:Nat} {gf:Option Nat} {cf:Nat} (h:(s.dv gd cd gl cl gf cf).At w K) (hd:s.dead=true):KIs_ w K (fun k=>(s.dv gd cd gl cl gf cf).own K k) s:=by
  refine ⟨gd,cd,gl,cl,gf,cf,?_,fun k=>Iff.rfl⟩
  simp only [hd,if_true]
  exact h
theorem acceptsB {x y:Bool} (h:x=y) {B:Nat} {fn:Nat} {z:World} {a:Array Value} (hc:Calls Tryz.prog fn a z fun e w'=>e=.returned (.bool x)∧Below z.heap.size z w'):Calls Tryz.prog fn a z fun e w'=>e=.returned (.bool y)∧Below z.heap.size z w':=by rw [← h];exact hc
theorem progHeard (s:LK) (hi:IvL s) (w:World) (K:Nat) (F:Nat→Prop) (hK:KIs_ w K F s) (gb o cap:Nat) (b:List UInt8) (hb:BytesIn w (some ⟨gb,o,none⟩) b) (hbn:b.length≤10000000) (hcap:b.length≤cap) (ho:¬ otherB b) :
    Calls Tryz.prog 21 #[.pointer (some ⟨K,0,none⟩),.slice (some ⟨gb,o,none⟩) b.length cap] w (PDid w K F (s.heard b)):=by
  unfold LK.heard
  cases hd:s.dead with
  | true =>
    rw [if_pos rfl]
    obtain ⟨gd,cd,gl,cl,gf,cf,h,hF⟩:=kis_dead hK hd
    refine (heardDeadV _ K w h (LK.dead_lost hd) _).mono ?_
    exact fun e y hh=>TupRet.did (d:=⟨[],5,s⟩) hh hF (fun ha=>kis_of_dead ha hd)
  | false =>
    rw [if_neg (by simp)]
    have hl:=LK.live_lost hd
    obtain ⟨gd,cd,gl,cl,gf,cf,h,hF⟩:=kis_alive hK hl
    have hrej:∀ f,unpackR b=some f→(∀ z a cp,Below w.heap.size w z→Calls Tryz.prog 41 #[.pointer (some ⟨K,0,none⟩),f.typed a cp] z fun e w'=>e=.returned (.bool false)∧Below z.heap.size z w')→Calls Tryz.prog 21 #[.pointer (some ⟨K,0,none⟩),.slice (some ⟨gb,o,none⟩) b.length cap] w (PDid w K F ⟨[],3,s⟩):=by
      intro f hR AV
      refine (heardRejV _ K w h hl gb o cap b hb hbn hcap f hR AV).mono ?_
      exact fun e y hh=>TupRet.did (d:=⟨[],3,s⟩) hh hF (fun ha=>kis_of ha hl)
    cases hR:unpackR b with
    | none =>
      refine (heardNoV _ K w h hl gb o cap b hb hbn hcap hR).mono ?_
      exact fun e y hh=>TupRet.did (d:=⟨[],3,s⟩) hh hF (fun ha=>kis_of ha hl)
    | some f =>
      show Calls _ _ _ _ (PDid w K F (s.heardF f))
      have hrej:=hrej f hR
      obtain ⟨fok,fk1,fk9⟩:=unpackR_ok hR
      obtain ⟨⟨f0,f4⟩,hpl,hagr⟩:=Fr.okP fok
      have parts:=Fr.ok_parts fok
      have hk:=hi.conf.1
      have no5:f.kind≠5:=fun e=>ho ⟨f,hR,.inl e⟩
      have no6:f.kind≠6:=fun e=>ho ⟨f,hR,.inr (.inl e)⟩
      have hvw:f.kind≠1→f.view=0:=fun e=>Classical.byContradiction fun e2=>ho ⟨f,hR,.inr (.inr ⟨e,e2⟩)⟩
      have hcase:f.kind=1∨f.kind=2∨f.kind=3∨f.kind=4∨f.kind=7∨f.kind=8∨f.kind=9:=by omega
      have hd0:∀ fr:Int,0≤fr→(decide (0≤fr) && decide (fr < s.kp) && (fr != s.me))=(decide (fr < s.kp) && (fr != s.me)):=fun fr e=>by rw [decide_eq_true e];rfl
      unfold LK.heardF
      by_cases hs:f.frm=s.me∨s.kp≤f.frm
      · have hbF:(decide (0≤f.frm) && decide (f.frm < s.kp) && (f.frm != s.me))=false:=by
          rw [hd0 _ f0]
          rcases hs with e | e
          · rw [e];simp
          · rw [decide_eq_false (by omega)];rfl
        rcases hcase with e | e | e | e | e | e | e
        · have hlok:=parts.2.2.1 (by rw [e];decide)
          rw [if_neg (by omega),if_pos e]
          have et:∀ a cp,f.typed a cp=.iface 149 (.agg #[.int .i64 f.line.c,.int .i64 f.line.t,.string ⟨f.line.s.toArray⟩]):=fun a cp=>by unfold Fr.typed;rw [if_pos e]
          refine heardDid s gd cd gl cl gf cf K w h hl F hF gb o cap b hb hbn hcap f hR (fun z a cp hz=>by rw [et];exact acceptsSay K z _ _ _) _ (fun z g c hz hol=>?_)
          rw [et]
          refine (hearSayT (HearDid w K s (s.pv gd cd gl cl gf cf) (s.say f.line)) K z _ _ _ (fun z1 hz1=>?_)).mono (fun e y q=>by first | exact q.2 | (obtain ⟨_,_,_,_,q⟩:=q;exact q))
          exact (hearSayD s gd cd gl cl gf cf K w h hl hi f.line (Ln.ok_fits hlok) z1 (hz.trans (hz1.mono hz.size))).mono fun e y q=>by
            obtain ⟨⟨a,n,c,e1⟩,q2⟩:=q.form
            exact ⟨a,n,c,e1,q2⟩
        · rw [if_neg (by omega),if_neg (by omega),if_pos hs]
          refine hrej (fun z a cp hz=>?_)
          have et:f.typed a cp=.iface 153 (.agg #[.int .i64 f.frm,.int .i64 0,.int .i64 f.place,.int .i64 f.agreed,.int .i64 f.line.c,.int .i64 f.line.t,.string ⟨f.line.s.toArray⟩]):=by unfold Fr.typed;rw [if_neg (by omega),if_pos e,hvw (by omega)]
          rw [et]
          exact acceptsPrepare _ K z (h.below hz) hk _ _ _ _ _ _ false hbF
        · rw [if_neg (by omega),if_neg (by omega),if_pos hs]
          refine hrej (fun z a cp hz=>?_)
          have et:f.typed a cp=.iface 204 (.agg #[.int .i64 f.frm,.int .i64 0,.int .i64 f.place]):=by unfold Fr.typed;rw [if_neg (by omega),if_neg (by omega),if_pos e,hvw (by omega)]
          rw [et]
          exact acceptsB (B:=K) hbF (acceptsHold _ K z (h.below hz) _ _ _)
        · rw [if_neg (by omega),if_neg (by omega),if_pos hs]
          refine hrej (fun z a cp hz=>?_)
          have et:f.typed a cp=.iface 156 (.agg #[.int .i64 f.frm,.int .i64 0,.int .i64 f.agreed]):=by unfold Fr.typed;rw [if_neg (by omega),if_neg (by omega),if_neg (by omega),if_pos e,hvw (by omega)]
          rw [et]
          exact acceptsBeat _ K z (h.below hz) hk _ _ false hbF
        · rw [if_neg (by omega),if_neg (by omega),if_pos hs]
          refine hrej (fun z a cp hz=>?_)
          have et:f.typed a cp=.iface 158 (.agg #[.int .i64 f.frm,.int .i64 0,.int .i64 f.agreed,.slice a f.lines.length cp]):=by unfold Fr.typed;rw [if_neg (by omega),if_neg (by omega),if_neg (by omega),if_neg (by omega),if_neg (by omega),if_neg (by omega),if_pos e,hvw (by omega)]
          rw [et]
          exact acceptsBegin _ K z (h.below hz) hk _ _ _ _ _ false hbF
        · rw [if_neg (by omega),if_neg (by omega),if_pos hs]
          refine hrej (fun z a cp hz=>?_)
          have et:f.typed a cp=.iface 209 (.agg #[.int .i64 f.frm,.int .i64 0]):=by unfold Fr.typed;rw [if_neg (by omega),if_neg (by omega),if_neg (by omega),if_neg (by omega),if_neg (by omega),if_neg (by omega),if_neg (by omega),if_pos e,hvw (by omega)]
          rw [et]
          exact acceptsB (B:=K) hbF (acceptsLag _ K z (h.below hz) _ _)
        · rw [if_pos e]
          refine hrej (fun z a cp hz=>?_)
          obtain ⟨x,et⟩:=Fr.typed9 e a cp
          rw [et]
          exact acceptsTold K z x
      · have hbT:(decide (0≤f.frm) && decide (f.frm < s.kp) && (f.frm != s.me))=true:=by
          rw [hd0 _ f0,decide_eq_true (by omega)]
          simp only [Bool.true_and,bne_iff_ne]
          exact fun e=>hs (.inl e)
        rcases hcase with e | e | e | e | e | e | e
        · have hlok:=parts.2.2.1 (by rw [e];decide)
          rw [if_neg (by omega),if_pos e]
          have et:∀ a cp,f.typed a cp=.iface 149 (.agg #[.int .i64 f.line.c,.int .i64 f.line.t,.string ⟨f.line.s.toArray⟩]):=fun a cp=>by unfold Fr.typed;rw [if_pos e]
          refine heardDid s gd cd gl cl gf cf K w h hl F hF gb o cap b hb hbn hcap f hR (fun z a cp hz=>by rw [et];exact acceptsSay K z _ _ _) _ (fun z g c hz hol=>?_)
          rw [et]
          refine (hearSayT (HearDid w K s (s.pv gd cd gl cl gf cf) (s.say f.line)) K z _ _ _ (fun z1 hz1=>?_)).mono (fun e y q=>by first | exact q.2 | (obtain ⟨_,_,_,_,q⟩:=q;exact q))
          exact (hearSayD s gd cd gl cl gf cf K w h hl hi f.line (Ln.ok_fits hlok) z1 (hz.trans (hz1.mono hz.size))).mono fun e y q=>by
            obtain ⟨⟨a,n,c,e1⟩,q2⟩:=q.form
            exact ⟨a,n,c,e1,q2⟩
        · have et:∀ a cp,f.typed a cp=.iface 153 (.agg #[.int .i64 f.frm,.int .i64 0,.int .i64 f.place,.int .i64 f.agreed,.int .i64 f.line.c,.int .i64 f.line.t,.string ⟨f.line.s.toArray⟩]):=fun a cp=>by unfold Fr.typed;rw [if_neg (by omega),if_pos e,hvw (by omega)]
          rw [if_neg (by omega),if_neg (by omega),if_neg hs]
          by_cases hz0:f.frm=0
          · rw [if_neg (fun q=>q.2 hz0)]
            have hm:s.me≠0:=fun q=>hs (.inl (by omega))
            unfold LK.heardK
            rw [if_neg hm,if_pos e]
            refine heardDid s gd cd gl cl gf cf K w h hl F hF gb o cap b hb hbn hcap f hR (fun z a cp hz=>by rw [et];exact acceptsB (B:=K) (by rw [hz0];rfl) (acceptsPrepare _ K z (h.below hz) hk _ _ _ _ _ _ true hbT)) _ (fun z g c hz hol=>?_)
            rw [et]
            exact hearPrepD s gd cd gl cl gf cf K w h hl hi hm f.frm f.place f.agreed hpl hagr f.line (Ln.ok_fits (parts.2.2.1 (by rw [e];decide))) f rfl rfl rfl rfl z hz
          · rw [if_pos ⟨.inl e,hz0⟩]
            refine hrej (fun z a cp hz=>?_)
            rw [et]
            exact acceptsB (B:=K) (by rw [beq_false_of_ne hz0];rfl) (acceptsPrepare _ K z (h.below hz) hk _ _ _ _ _ _ true hbT)
        · have et:∀ a cp,f.typed a cp=.iface 204 (.agg #[.int .i64 f.frm,.int .i64 0,.int .i64 f.place]):=fun a cp=>by unfold Fr.typed;rw [if_neg (by omega),if_neg (by omega),if_pos e,hvw (by omega)]
          rw [if_neg (by omega),if_neg (by omega),if_neg hs,if_neg (by omega)]
          refine heardDid s gd cd gl cl gf cf K w h hl F hF gb o cap b hb hbn hcap f hR (fun z a cp hz=>by rw [et];exact acceptsB (B:=K) hbT (acceptsHold _ K z (h.below hz) _ _ _)) _ (fun z g c hz hol=>?_)
          rw [et]
          exact hearHoldD s gd cd gl cl gf cf K w h hl hi f f.frm f.place rfl rfl e (by omega) hpl.1 z hz
        · have et:∀ a cp,f.typed a cp=.iface 156 (.agg #[.int .i64 f.frm,.int .i64 0,.int .i64 f.agreed]):=fun a cp=>by unfold Fr.typed;rw [if_neg (by omega),if_neg (by omega),if_neg (by omega),if_pos e,hvw (by omega)]
          rw [if_neg (by omega),if_neg (by omega),if_neg hs]
          by_cases hz0:f.frm=0
          · rw [if_neg (fun q=>q.2 hz0)]
            have hm:s.me≠0:=fun q=>hs (.inl (by omega))
            unfold LK.heardK
            rw [if_neg hm,if_neg (by omega),if_pos e]
            refine heardDid s gd cd gl cl gf cf K w h hl F hF gb o cap b hb hbn hcap f hR (fun z a cp hz=>by rw [et];exact acceptsB (B:=K) (by rw [hz0];rfl) (acceptsBeat _ K z (h.below hz) hk _ _ true hbT)) _ (fun z g c hz hol=>?_)
            rw [et]
            exact hearBeatD s gd cd gl cl gf cf K w h hl hi hm f.frm f.agreed hagr f rfl rfl z hz
          · rw [if_pos ⟨.inr (.inl e),hz0⟩]
            refine hrej (fun z a cp hz=>?_)
            rw [et]
            exact acceptsB (B:=K) (by rw [beq_false_of_ne hz0];rfl) (acceptsBeat _ K z (h.below hz) hk _ _ true hbT)
        · have et:∀ a cp,f.typed a cp=.iface 158 (.agg #[.int .i64 f.frm,.int .i64 0,.int .i64 f.agreed,.slice a f.lines.length cp]):=fun a cp=>by unfold Fr.typed;rw [if_neg (by omega),if_neg (by omega),if_neg (by omega),if_neg (by omega),if_neg (by omega),if_neg (by omega),if_pos e,hvw (by omega)]
          rw [if_neg (by omega),if_neg (by omega),if_neg hs]
          by_cases hz0:f.frm=0
          · rw [if_neg (fun q=>q.2 hz0)]
            have hm:s.me≠0:=fun q=>hs (.inl (by omega))
            unfold LK.heardK
            rw [if_neg hm,if_neg (by omega),if_neg (by omega),if_pos e]
            refine heardDid s gd cd gl cl gf cf K w h hl F hF gb o cap b hb hbn hcap f hR (fun z a cp hz=>by rw [et];exact acceptsB (B:=K) (by rw [hz0];rfl) (acceptsBegin _ K z (h.below hz) hk _ _ _ _ _ true hbT)) _ (fun z g c hz hol=>?_)
            rw [et]
            exact hearBeginD s gd cd gl cl gf cf K w h hl hi hm f.frm f.agreed hagr f rfl rfl (parts.2.2.2.2.1 (by rw [e];decide)) z hz g c hol
          · rw [if_pos ⟨.inr (.inr e),hz0⟩]
            refine hrej (fun z a cp hz=>?_)
            rw [et]
            exact acceptsB (B:=K) (by rw [beq_false_of_ne hz0];rfl) (acceptsBegin _ K z (h.below hz) hk _ _ _ _ _ true hbT)
        · have et:∀ a cp,f.typed a cp=.iface 209 (.agg #[.int .i64 f.frm,.int .i64 0]):=fun a cp=>by unfold Fr.typed;rw [if_neg (by omega),if_neg (by omega),if_neg (by omega),if_neg (by omega),if_neg (by omega),if_neg (by omega),if_neg (by omega),if_pos e,hvw (by omega)]
          rw [if_neg (by omega),if_neg (by omega),if_neg hs,if_neg (by omega)]
          refine heardDid s gd cd gl cl gf cf K w h hl F hF gb o cap b hb hbn hcap f hR (fun z a cp hz=>by rw [et];exact acceptsB (B:=K) hbT (acceptsLag _ K z (h.below hz) _ _)) _ (fun z g c hz hol=>?_)
          rw [et]
          exact hearLagD s gd cd gl cl gf cf K w h hl hi f f.frm rfl e z hz
        · rw [if_pos e]
          refine hrej (fun z a cp hz=>?_)
          obtain ⟨x,et⟩:=Fr.typed9 e a cp
          rw [et]
          exact acceptsTold K z x
theorem progTick (s:LK) (hi:IvL s) (hm:s.me=0) (w:World) (K:Nat) (F:Nat→Prop) (hK:KIs_ w K F s) :
    Calls Tryz.prog 27 #[.pointer (some ⟨K,0,none⟩)] w (PDid w K F s.tick):=by
  unfold LK.tick
  cases hd:s.dead with
  | true =>
    rw [if_pos rfl]
    obtain ⟨gd,cd,gl,cl,gf,cf,h,hF⟩:=kis_dead hK hd
    refine (tickDeadV _ K w h (LK.dead_lost hd)).mono ?_
    exact fun e y hh=>TupRet.did (d:=⟨[],5,s⟩) hh hF (fun ha=>kis_of_dead ha hd)
  | false =>
    rw [if_neg (by simp)]
    have hl:=LK.live_lost hd
    obtain ⟨gd,cd,gl,cl,gf,cf,h,hF⟩:=kis_alive hK hl
    refine (tickHeadV _ K w h hl hi.conf.1 hi.v0.1 hi.v0.2 hm s.kp.toNat hi.conf.nat.2.symm (fun j=>(hi.hs j).1) hi.l20).mono ?_
    exact fun e y hh=>TupRet.did (d:=⟨(othersL s.me s.kp.toNat).map fun t=>⟨false,t,packS (s.reminder t)⟩,0,s⟩) hh hF (fun ha=>kis_of ha hl)
theorem progArm (s:LK) (n:Int) (w:World) (K:Nat) (F:Nat→Prop) (hK:KIs_ w K F s) :
    Calls Tryz.prog 20 #[.pointer (some ⟨K,0,none⟩),.int .i64 n] w fun e w'=>e=.returned (.tuple #[])∧KIs_ w' K F (s.armed n)∧Touch F w w':=by
  cases hd:s.dead with
  | true =>
    obtain ⟨gd,cd,gl,cl,gf,cf,h,hF⟩:=kis_dead hK hd
    refine (armV _ K w h n).mono ?_
    rintro e y ⟨he,hc⟩
    have hne:¬ s.lost=[]:=fun q=>by have:=LK.dead_lost hd;rw [q] at this;cases this
    change Chg w y K (s.dv gd cd gl cl gf cf) (if s.lost=[] then _ else _) at hc
    rw [if_neg hne] at hc
    have hd':(s.armed n).dead=true:=hd
    obtain ⟨gd',cd',gl',cl',gf',cf',q1,q2⟩:=kis_of_dead (s:=s.armed n) (gd:=gd) (cd:=cd) (gl:=gl) (cl:=cl) (gf:=gf) (cf:=cf) hc.at_ hd'
    exact ⟨he,⟨gd',cd',gl',cl',gf',cf',q1,fun k=>(hF k).trans (q2 k)⟩,hc.tch.mono (fun i _ e=>(hF i).2 e)⟩
  | false =>
    have hl:=LK.live_lost hd
    obtain ⟨gd,cd,gl,cl,gf,cf,h,hF⟩:=kis_alive hK hl
    refine (armV _ K w h n).mono ?_
    rintro e y ⟨he,hc⟩
    change Chg w y K (s.pv gd cd gl cl gf cf) (if s.lost=[] then _ else _) at hc
    rw [if_pos hl] at hc
    obtain ⟨gd',cd',gl',cl',gf',cf',q1,q2⟩:=kis_of (s:=s.armed n) (gd:=gd) (cd:=cd) (gl:=gl) (cl:=cl) (gf:=gf) (cf:=cf) hc.at_ hl
    exact ⟨he,⟨gd',cd',gl',cl',gf',cf',q1,fun k=>(hF k).trans (q2 k)⟩,hc.tch.mono (fun i _ e=>(hF i).2 e)⟩
end
end Go.Proofs.YtolififimldmlaaGreat
