import Derived.Test.YtolififimldmlaaGreatPart37
import Derived.Test.YtolififimldmlaaGreatPart41
set_option linter.unusedVariables false
set_option linter.unusedSimpArgs false
set_option maxRecDepth 100000
set_option maxHeartbeats 16000000
namespace Go.Proofs.YtolififimldmlaaGreat
section
open Go.RowKit
theorem fitsB_in {b:Bool} {n lo hi:Int} (h:fitsB b n lo hi=true) (h0:0≤lo) (h1:0≤hi):0≤n∧n≤hi:=by
  unfold fitsB at h
  split at h
  · simp only [Bool.and_eq_true,decide_eq_true_eq] at h
    omega
  · simp only [beq_iff_eq] at h
    omega
theorem Fr.okP {f:Fr} (h:f.ok=true):(0≤f.frm∧f.frm≤4)∧(0≤f.place∧f.place≤20)∧(0≤f.agreed∧f.agreed≤20):=by
  unfold Fr.ok at h
  simp only [Bool.and_eq_true,decide_eq_true_eq] at h
  obtain ⟨⟨⟨⟨⟨⟨⟨⟨⟨_,_⟩,f1⟩,f2⟩,f3⟩,f4⟩,f5⟩,_⟩,_⟩,_⟩:=h
  exact ⟨fitsB_in f1 (by omega) (by omega),fitsB_in f3 (by split <;> omega) (by omega),fitsB_in f4 (by omega) (by omega)⟩
theorem OutsChg.base {w x y:World} {B:Nat} {v u:PV} {os:List OutG} {e:Ending} (h:OutsChg x B v u os e y) (hv:v.At w B) (hb:Below w.heap.size w x):OutsChg w B v u os e y:=OutsChg.of (Chg.same hv hb) h
def HearDid (w:World) (B:Nat) (s:LK) (v:PV) (d:Did) (e:Ending) (y:World):Prop :=
  (d.er=0∧d.st.lost=[]∧∃ gd cd gl cl gf cf,OutsChg w B v (d.st.pv gd cd gl cl gf cf) d.os e y)∨(∃ inner gf cf,d=⟨[],4,s.crash inner⟩∧OutsChg w B v (v.crash inner gf cf) [] e y)
theorem HearDid.form {w:World} {B:Nat} {s:LK} {v:PV} {d:Did} {e:Ending} {y:World} (h:HearDid w B s v d e y):SlRet (HearDid w B s v d) e y:=by
  refine ⟨?_,h⟩
  rcases h with ⟨_,_,_,_,_,_,_,_,h⟩ | ⟨_,_,_,_,h⟩
  · exact h.form
  · exact h.form
section
variable (s:LK) (gd:Option Nat) (cd:Nat) (gl:Option Nat) (cl:Nat) (gf:Option Nat) (cf:Nat) (B:Nat) (w:World) (h:(s.pv gd cd gl cl gf cf).At w B) (hl:s.lost=[])
include h hl
theorem heardDid (F:Nat→Prop) (hF:∀ k,F k↔(s.pv gd cd gl cl gf cf).own B k) (gb o cap:Nat) (b:List UInt8) (hb:BytesIn w (some ⟨gb,o,none⟩) b) (hbn:b.length≤10000000) (hcap:b.length≤cap) (f:Fr) (hR:unpackR b=some f) (AV:∀ z a cp,Below w.heap.size w z→Calls Tryz.prog 41 #[.pointer (some ⟨B,0,none⟩),f.typed a cp] z fun e w'=>e=.returned (.bool true)∧Below z.heap.size z w')
    (d:Did) (HH:∀ z g c,Below w.heap.size w z→OwnLines w z g c f.lines→Calls Tryz.prog 43 #[.pointer (some ⟨B,0,none⟩),f.typed (g.map fun k=>(⟨k,0,none⟩:Addr)) c] z (HearDid w B s (s.pv gd cd gl cl gf cf) d)) :
    Calls Tryz.prog 21 #[.pointer (some ⟨B,0,none⟩),.slice (some ⟨gb,o,none⟩) b.length cap] w (PDid w B F d):=by
  by_cases he:d.er=0
  · refine (heardOkV _ B w h (fun u=>d.st.lost=[]∧∃ gd cd gl cl gf cf,u=d.st.pv gd cd gl cl gf cf) (fun u hu=>?_) d.os hl gb o cap b hb hbn hcap f hR AV (fun z g c hz ho=>(HH z g c hz ho).mono ?_)).mono ?_
    · obtain ⟨h1,_,_,_,_,_,_,rfl⟩:=hu;exact h1
    · intro e y hd
      rcases hd with ⟨_,h2,gd',cd',gl',cl',gf',cf',h3⟩ | ⟨inner,gf',cf',h1,_⟩
      · exact ⟨_,⟨h2,gd',cd',gl',cl',gf',cf',rfl⟩,h3⟩
      · rw [h1] at he;cases he
    · rintro e y ⟨v',⟨h2,gd',cd',gl',cl',gf',cf',rfl⟩,h3⟩
      rw [← he] at h3
      exact h3.did hF (fun ha=>kis_of ha h2)
  · refine (heardCrashV _ B w h (fun u=>∃ inner gf' cf',d=⟨[],4,s.crash inner⟩∧u=(s.pv gd cd gl cl gf cf).crash inner gf' cf') (fun u hu=>?_) hl gb o cap b hb hbn hcap f hR AV (fun z g c hz ho=>(HH z g c hz ho).mono ?_)).mono ?_
    · obtain ⟨inner,gf',cf',_,rfl⟩:=hu
      show 0 < (recBytes inner).length
      rw [recBytes_len];omega
    · intro e y hd
      rcases hd with ⟨h1,_⟩ | ⟨inner,gf',cf',h1,h2⟩
      · exact absurd h1 he
      · exact ⟨_,⟨inner,gf',cf',h1,rfl⟩,h2⟩
    · rintro e y ⟨v',⟨inner,gf',cf',rfl,rfl⟩,h3⟩
      exact TupRet.did (d:=⟨[],4,s.crash inner⟩) h3 hF (fun ha=>kis_gone ha)
theorem hearSayD (hi:IvL s) (l:Ln) (hf:l.fits) (z:World) (hz:Below w.heap.size w z):Calls Tryz.prog 81 #[.pointer (some ⟨B,0,none⟩),.agg #[.int .i64 l.c,.int .i64 l.t,.string ⟨l.s.toArray⟩]] z (HearDid w B s (s.pv gd cd gl cl gf cf) (s.say l)):=by
  have hk:=hi.conf.1
  have h0:=hi.v0
  have hz':=h.below hz
  have h20:=hi.l20
  have hkn:=hi.conf.nat
  unfold LK.say
  by_cases hm:s.me=0
  · rw [if_neg (by simpa using hm)]
    by_cases ht:l.t≤turnOf s.m.ls l.c
    · rw [if_pos ht]
      refine (hearSayTold _ B z hz' hk h0.1 h0.2 hm h20 hi.ag hi.lok l ht).mono ?_
      exact fun e y hh=>.inl ⟨rfl,hl,gd,cd,gl,cl,gf,cf,hh.base h hz⟩
    · rw [if_neg ht]
      by_cases h2:20≤s.m.ls.length
      · rw [if_pos h2]
        refine (hearSayFull _ B z hz' hk h0.1 h0.2 hm (Nat.le_antisymm h20 h2) l (by show turnOf s.m.ls l.c < l.t;omega)).mono ?_
        exact fun e y hh=>.inl ⟨rfl,hl,gd,cd,gl,cl,gf,cf,hh.base h hz⟩
      · rw [if_neg h2]
        by_cases ha:s.arm=1
        · rw [if_pos ha]
          refine (hearSayFail _ B z hz' hk h0.1 h0.2 hm (by show s.m.ls.length < 20;omega) hl ha l hf (by show turnOf s.m.ls l.c < l.t;omega)).mono ?_
          rintro e y ⟨gf',cf',hh⟩
          exact .inr ⟨_,gf',cf',rfl,hh.base h hz⟩
        · rw [if_neg ha]
          have hd:=hi.len
          have hA:=hi.arm
          refine (hearSayOkV _ B z hz' s.kp.toNat hkn.2.symm hk (by show 0≤s.m.view;omega) (by show s.m.last=s.m.view;omega) (by show s.m.view % s.kp=s.me;rw [h0.1,hm];rfl) hl (armNext s.arm) (by
            show (s.arm=0∧armNext s.arm=0)∨(2≤s.arm∧s.arm≤9223372036854775807∧armNext s.arm=s.arm - 1)
            unfold armNext
            split <;> omega) l hf (by show turnOf s.m.ls l.c < l.t;omega) (by show s.m.ls.length < 20;omega) (by show s.d.length≤9900000;omega)).mono ?_
          rintro e y ⟨g,c,gs,cs,gd',cd',gl',cl',h1,h2,h3,h4⟩
          refine .inl ⟨rfl,hl,gd',cd',gl',cl',gf,cf,OutsChg.base (x:=z) ⟨g,c,gs,cs,?_,h2,h3,?_⟩ h hz⟩
          · rw [h1];unfold LK.toAll;rw [List.length_map];rfl
          · have hlen:0 < (othersL s.me s.kp.toNat).length:=by
              have:=othersL_len1 (me:=s.me) s.kp.toNat hi.conf.2.1
              rw [this]
              split <;> omega
            intro k e
            rcases e with e | ⟨j,hj,e⟩
            · exact h4 0 hlen k (.inl e)
            · exact h4 j (by unfold LK.toAll at hj;rwa [List.length_map] at hj) k (.inr e)
  · rw [if_pos (by simpa using hm)]
    refine (hearSayNot _ B z hz' hk h0.1 h0.2 (fun e=>hm e.symm) l).mono ?_
    exact fun e y hh=>.inl ⟨rfl,hl,gd,cd,gl,cl,gf,cf,hh.base h hz⟩
end
theorem natOf {x:Int} (h:0≤x):((x.toNat:Nat):Int)=x:=by omega
section
variable (s:LK) (gd:Option Nat) (cd:Nat) (gl:Option Nat) (cl:Nat) (gf:Option Nat) (cf:Nat) (B:Nat) (w:World) (h:(s.pv gd cd gl cl gf cf).At w B) (hl:s.lost=[]) (hi:IvL s)
include h hl hi
theorem hearPrepD (hm:s.me≠0) (frm p n:Int) (hp:0≤p∧p≤20) (hn:0≤n∧n≤20) (l:Ln) (hf:l.fits) (f:Fr) (ef:f.frm=frm) (ep:f.place=p) (en:f.agreed=n) (el:f.line=l) (z:World) (hz:Below w.heap.size w z) :
    Calls Tryz.prog 43 #[.pointer (some ⟨B,0,none⟩),.iface 153 (.agg #[.int .i64 frm,.int .i64 0,.int .i64 p,.int .i64 n,.int .i64 l.c,.int .i64 l.t,.string ⟨l.s.toArray⟩])] z (HearDid w B s (s.pv gd cd gl cl gf cf) (s.prepared f)):=by
  have hk:=hi.conf.1
  have h0:=hi.v0
  have h20:=hi.l20
  have hag:=hi.ag
  have hd:=hi.len
  refine (hearPrepareT (HearDid w B s (s.pv gd cd gl cl gf cf) (s.prepared f)) B z frm 0 p n l.c l.t l.s (fun z1 hz1=>?_)).mono (fun e y q=>q.2)
  have hw1:=hz.trans (hz1.mono hz.size)
  refine hearKeeperOwnPrepare _ _ B z1 (h.below hw1) frm 0 p n l.c l.t l.s h0.1.symm (fun z2 hz2=>?_)
  have hw2:=hw1.trans (hz2.mono hw1.size)
  refine hearOwnIn _ _ B z2 (h.below hw2) hk h0.1 h0.2 (fun e=>hm e.symm) _ (fun z3 hz3=>?_)
  have hw3:=hw2.trans (hz3.mono hw2.size)
  refine hearInViewPrepare _ B z3 frm 0 p n l.c l.t l.s (fun z4 hz4=>?_)
  have hw4:=hw3.trans (hz4.mono hw3.size)
  have H:=fun Q=>hearPrepareV _ B z4 (h.below hw4) Q hl h20 (by show s.agreed≤20;omega) (by show s.d.length≤9900000;omega) hi.arm frm 0 p.toNat n.toNat (by omega) (by omega) l hf
  rw [natOf hp.1,natOf hn.1] at H
  subst ef ep en el
  refine H _ ?_ ?_ ?_ ?_ ?_
  · intro hq ht e y hh
    refine HearDid.form ?_
    change f.line.t≤turnOf s.m.ls f.line.c at ht
    have hq':f.place=s.m.ls.length+1:=by change f.place.toNat=s.m.ls.length+1 at hq;omega
    unfold LK.prepared
    rw [if_pos hq',if_pos ht]
    exact .inl ⟨rfl,hl,gd,cd,gl,cl,gf,cf,hh.base h hw4⟩
  · intro hq ht ha e y gf' cf' hh
    change s.arm=1 at ha
    refine HearDid.form ?_
    have hq':f.place=s.m.ls.length+1:=by change f.place.toNat=s.m.ls.length+1 at hq;omega
    have ht':¬ f.line.t≤turnOf s.m.ls f.line.c:=by change turnOf s.m.ls f.line.c < f.line.t at ht;omega
    unfold LK.prepared
    rw [if_pos hq',if_neg ht',if_pos ha]
    exact .inr ⟨_,gf',cf',rfl,hh.base h hw4⟩
  · intro hq ht ha e y gd' cd' gl' cl' hh
    change s.arm≠1 at ha
    refine HearDid.form ?_
    have hq':f.place=s.m.ls.length+1:=by change f.place.toNat=s.m.ls.length+1 at hq;omega
    have ht':¬ f.line.t≤turnOf s.m.ls f.line.c:=by change turnOf s.m.ls f.line.c < f.line.t at ht;omega
    unfold LK.prepared
    rw [if_pos hq',if_neg ht',if_neg ha]
    refine .inl ⟨rfl,hl,gd',cd',gl',cl',gf,cf,?_⟩
    have:=hh.base h hw4
    have e1:(s.m.ls++[f.line]).length=s.m.ls.length+1:=by simp
    unfold LK.holding LK.wrote LK.pv
    dsimp only
    rw [e1]
    exact this
  · intro hq e y hh
    refine HearDid.form ?_
    change s.m.ls.length+1 < f.place.toNat at hq
    unfold LK.prepared
    rw [if_neg (by omega),if_pos (by omega)]
    refine .inl ⟨rfl,hl,gd,cd,gl,cl,gf,cf,?_⟩
    have:=hh.base h hw4
    unfold LK.lagging
    dsimp only
    rw [h0.1]
    exact this
  · intro hq e y hh
    refine HearDid.form ?_
    change f.place.toNat≤s.m.ls.length at hq
    unfold LK.prepared
    rw [if_neg (by omega),if_neg (by omega)]
    exact .inl ⟨rfl,hl,gd,cd,gl,cl,gf,cf,hh.base h hw4⟩
theorem hearBeatD (hm:s.me≠0) (frm n:Int) (hn:0≤n∧n≤20) (f:Fr) (ef:f.frm=frm) (en:f.agreed=n) (z:World) (hz:Below w.heap.size w z) :
    Calls Tryz.prog 43 #[.pointer (some ⟨B,0,none⟩),.iface 156 (.agg #[.int .i64 frm,.int .i64 0,.int .i64 n])] z (HearDid w B s (s.pv gd cd gl cl gf cf) (s.beaten f)):=by
  have hk:=hi.conf.1
  have h0:=hi.v0
  have h20:=hi.l20
  have hag:=hi.ag
  refine (hearBeatT (HearDid w B s (s.pv gd cd gl cl gf cf) (s.beaten f)) B z frm 0 n (fun z1 hz1=>?_)).mono (fun e y q=>q.2)
  have hw1:=hz.trans (hz1.mono hz.size)
  refine hearKeeperOwnBeat _ _ B z1 (h.below hw1) frm 0 n h0.1.symm (fun z2 hz2=>?_)
  have hw2:=hw1.trans (hz2.mono hw1.size)
  refine hearOwnIn _ _ B z2 (h.below hw2) hk h0.1 h0.2 (fun e=>hm e.symm) _ (fun z3 hz3=>?_)
  have hw3:=hw2.trans (hz3.mono hw2.size)
  refine hearInViewBeat _ B z3 frm 0 n (fun z4 hz4=>?_)
  have hw4:=hw3.trans (hz4.mono hw3.size)
  have H:=fun Q=>hearBeatV _ B z4 (h.below hw4) Q frm 0 n.toNat (by omega) (by show s.agreed≤20;omega) h20
  rw [natOf hn.1] at H
  subst ef en
  refine H _ ?_ ?_
  · intro hq e y hh
    refine HearDid.form ?_
    change s.m.ls.length < f.agreed.toNat at hq
    unfold LK.beaten
    rw [if_pos (by omega)]
    refine .inl ⟨rfl,hl,gd,cd,gl,cl,gf,cf,?_⟩
    have:=hh.base h hw4
    unfold LK.lagging
    dsimp only
    rw [h0.1]
    exact this
  · intro hq e y hh
    refine HearDid.form ?_
    change f.agreed.toNat≤s.m.ls.length at hq
    unfold LK.beaten
    rw [if_neg (by omega)]
    exact .inl ⟨rfl,hl,gd,cd,gl,cl,gf,cf,hh.base h hw4⟩
theorem hearBeginD (hm:s.me≠0) (frm n:Int) (hn:0≤n∧n≤20) (f:Fr) (ef:f.frm=frm) (en:f.agreed=n) (hok:linesOk f.lines=true) (z:World) (hz:Below w.heap.size w z) (g:Option Nat) (c:Nat) (ho:OwnLines w z g c f.lines) :
    Calls Tryz.prog 43 #[.pointer (some ⟨B,0,none⟩),.iface 158 (.agg #[.int .i64 frm,.int .i64 0,.int .i64 n,.slice (g.map fun k=>(⟨k,0,none⟩:Addr)) f.lines.length c])] z (HearDid w B s (s.pv gd cd gl cl gf cf) (s.begun f)):=by
  have hk:=hi.conf.1
  have h0:=hi.v0
  have h20:=hi.l20
  have hag:=hi.ag
  have hd:=hi.len
  refine (hearBeginT (HearDid w B s (s.pv gd cd gl cl gf cf) (s.begun f)) B z frm 0 n _ _ _ (fun z1 hz1=>?_)).mono (fun e y q=>q.2)
  have hw1:=hz.trans (hz1.mono hz.size)
  refine hearKeeperOwnBegin _ _ B z1 (h.below hw1) frm 0 n _ _ _ h0.1.symm (fun z2 hz2=>?_)
  have hw2:=hw1.trans (hz2.mono hw1.size)
  refine hearOwnIn _ _ B z2 (h.below hw2) hk h0.1 h0.2 (fun e=>hm e.symm) _ (fun z3 hz3=>?_)
  have hw3:=hw2.trans (hz3.mono hw2.size)
  refine hearInViewBegin _ B z3 frm 0 n _ _ _ (fun z4 hz4=>?_)
  have hw4:=hw3.trans (hz4.mono hw3.size)
  have ho4:=((((ho.below hz1).below hz2).below hz3).below hz4)
  have hlt:B < w.heap.size:=heap_lt h.blk
  have H:=fun Q=>hearBeginV _ B z4 (h.below hw4) Q hl h0.1 h0.2 h20 (by show s.agreed≤20;omega) (by show s.d.length≤9900000;omega) hi.arm frm n.toNat (by omega) (g.map fun k=>(⟨k,0,none⟩:Addr)) c f.lines ho4.at_ (by
    intro p e _ e2
    cases hg:g with
    | none=>rw [hg] at e;cases e
    | some k =>
      rw [hg] at e
      cases e
      have:=ho4.new k hg
      have e2:k=B:=e2
      omega) hok
  rw [natOf hn.1] at H
  subst ef en
  refine H _ ?_ ?_ ?_
  · intro hq ha e y gf' cf' hh
    change s.arm=1 at ha
    change s.m.ls.length < f.lines.length at hq
    refine HearDid.form ?_
    unfold LK.begun
    rw [if_pos hq,if_pos ha]
    exact .inr ⟨_,gf',cf',rfl,hh.base h hw4⟩
  · intro hq ha e y gd' cd' gl' cl' hh
    change s.arm≠1 at ha
    change s.m.ls.length < f.lines.length at hq
    refine HearDid.form ?_
    unfold LK.begun
    rw [if_pos hq,if_neg ha]
    exact .inl ⟨rfl,hl,gd',cd',gl',cl',gf,cf,hh.base h hw4⟩
  · intro hq e y hh
    refine HearDid.form ?_
    change f.lines.length≤s.m.ls.length at hq
    unfold LK.begun
    rw [if_neg (by omega)]
    exact .inl ⟨rfl,hl,gd,cd,gl,cl,gf,cf,hh.base h hw4⟩
theorem hearLagD (f:Fr) (frm:Int) (ef:f.frm=frm) (h8:f.kind=8) (z:World) (hz:Below w.heap.size w z) :
    Calls Tryz.prog 43 #[.pointer (some ⟨B,0,none⟩),.iface 209 (.agg #[.int .i64 frm,.int .i64 0])] z (HearDid w B s (s.pv gd cd gl cl gf cf) (s.heardK f)):=by
  have hk:=hi.conf.1
  have h0:=hi.v0
  have h20:=hi.l20
  subst ef
  refine (hearLagT (HearDid w B s (s.pv gd cd gl cl gf cf) (s.heardK f)) B z f.frm 0 (fun z1 hz1=>?_)).mono (fun e y q=>q.2)
  have hw1:=hz.trans (hz1.mono hz.size)
  refine hearKeeperOwnLag _ _ B z1 (h.below hw1) f.frm 0 h0.1.symm (fun z2 hz2=>?_)
  have hw2:=hw1.trans (hz2.mono hw1.size)
  by_cases hm:s.me=0
  · refine hearOwnHead _ _ B z2 (h.below hw2) hk (by show 0≤s.m.view;omega) (by show s.m.last=s.m.view;omega) (by show s.m.view % s.kp=s.me;rw [h0.1,hm];rfl) _ (fun z3 hz3=>?_)
    have hw3:=hw2.trans (hz3.mono hw2.size)
    refine (hearAsHeadLag _ B z3 (h.below hw3) f.frm h20).mono ?_
    rintro e y ⟨_,hh⟩
    refine HearDid.form ?_
    unfold LK.heardK
    rw [if_pos hm,if_neg (by omega)]
    exact .inl ⟨rfl,hl,gd,cd,gl,cl,gf,cf,hh.base h hw3⟩
  · refine hearOwnIn _ _ B z2 (h.below hw2) hk h0.1 h0.2 (fun e=>hm e.symm) _ (fun z3 hz3=>?_)
    have hw3:=hw2.trans (hz3.mono hw2.size)
    refine hearInViewLag _ B z3 f.frm 0 ?_
    unfold LK.heardK
    rw [if_neg hm,if_neg (by omega),if_neg (by omega),if_neg (by omega)]
    exact .inl ⟨rfl,hl,gd,cd,gl,cl,gf,cf,OutsChg.nil (Chg.same h hw3)⟩
theorem hearHoldD (f:Fr) (frm pl:Int) (ef:f.frm=frm) (ep:f.place=pl) (h3:f.kind=3) (hfr:0≤frm∧frm < 5) (hpl:0≤pl) (z:World) (hz:Below w.heap.size w z) :
    Calls Tryz.prog 43 #[.pointer (some ⟨B,0,none⟩),.iface 204 (.agg #[.int .i64 frm,.int .i64 0,.int .i64 pl])] z (HearDid w B s (s.pv gd cd gl cl gf cf) (s.heardK f)):=by
  have hk:=hi.conf.1
  have h0:=hi.v0
  have h20:=hi.l20
  have hkn:=hi.conf.nat
  have hmr:0≤s.me∧s.me < s.kp.toNat:=by have:=hi.conf.2;omega
  subst ef ep
  refine (hearHoldT (HearDid w B s (s.pv gd cd gl cl gf cf) (s.heardK f)) B z f.frm 0 f.place (fun z1 hz1=>?_)).mono (fun e y q=>q.2)
  have hw1:=hz.trans (hz1.mono hz.size)
  refine hearKeeperOwnHold _ _ B z1 (h.below hw1) f.frm 0 f.place h0.1.symm (fun z2 hz2=>?_)
  have hw2:=hw1.trans (hz2.mono hw1.size)
  by_cases hm:s.me=0
  · refine hearOwnHead _ _ B z2 (h.below hw2) hk (by show 0≤s.m.view;omega) (by show s.m.last=s.m.view;omega) (by show s.m.view % s.kp=s.me;rw [h0.1,hm];rfl) _ (fun z3 hz3=>?_)
    have hw3:=hw2.trans (hz3.mono hw2.size)
    refine hearAsHeadHold _ B z3 f.frm 0 f.place (fun z4 hz4=>?_)
    have hw4:=hw3.trans (hz4.mono hw3.size)
    unfold LK.heardK
    rw [if_pos hm,if_pos h3]
    rcases Int.lt_or_le (s.m.ls.length:Int) f.place with q | q
    · refine (hearHoldFar _ B z4 (h.below hw4) s.kp.toNat hkn.2.symm hkn.1 hmr (by have:=hi.ag;show s.agreed≤20;omega) f.frm 0 f.place q _ rfl hi.few).mono ?_
      intro e y hh
      refine HearDid.form ?_
      unfold LK.held
      rw [if_pos q]
      exact .inl ⟨rfl,hl,gd,cd,gl,cl,gf,cf,hh.base h hw4⟩
    · have hh1:∀ j,0≤holdsSet s.hs f.frm.toNat (max (s.hs f.frm.toNat) f.place) j∧holdsSet s.hs f.frm.toNat (max (s.hs f.frm.toNat) f.place) j≤s.m.ls.length:=by
        intro j
        have:=hi.hs j
        have:=hi.hs f.frm.toNat
        unfold holdsSet
        split <;> omega
      have hge:=heldFew_ge _ s.me s.kp.toNat hkn.1 hmr (fun j=>(hh1 j).1)
      have hle:=heldFew_le _ s.me s.kp.toNat hkn.1 hmr s.m.ls.length (fun j=>(hh1 j).2)
      refine (hearHoldV _ B z4 (h.below hw4) s.kp.toNat hkn.2.symm hkn.1 hmr h20 f.frm 0 f.place hfr q _ rfl (heldFew (holdsSet s.hs f.frm.toNat (max (s.hs f.frm.toNat) f.place)) s.me s.kp.toNat).toNat (natOf hge).symm (by show _≤s.m.ls.length;omega) hi.ag).mono ?_
      rintro e y ⟨g,c,gs,cs,h1,h2,h4⟩
      refine HearDid.form ?_
      unfold LK.held
      rw [if_neg (by omega)]
      refine .inl ⟨rfl,hl,gd,cd,gl,cl,gf,cf,OutsChg.base (x:=z4) ⟨g,c,gs,cs,?_,h2,h4,?_⟩ h hw4⟩
      · rw [toldL_len];exact h1
      · intro k e e2
        have:=(h.below hw4).ownlt (k:=k) e2
        rcases e with e | ⟨j,hj,e⟩
        · have:=h2.new k e;omega
        · have:=(h2.bs j hj).new k e;omega
  · refine hearOwnIn _ _ B z2 (h.below hw2) hk h0.1 h0.2 (fun e=>hm e.symm) _ (fun z3 hz3=>?_)
    have hw3:=hw2.trans (hz3.mono hw2.size)
    refine hearInViewHold _ B z3 f.frm 0 f.place ?_
    unfold LK.heardK
    rw [if_neg hm,if_neg (by omega),if_neg (by omega),if_neg (by omega)]
    exact .inl ⟨rfl,hl,gd,cd,gl,cl,gf,cf,OutsChg.nil (Chg.same h hw3)⟩
end
def LK.dv (s:LK) (gd:Option Nat) (cd:Nat) (gl:Option Nat) (cl:Nat) (gf:Option Nat) (cf:Nat):PV:=⟨0,0,0,s.d,s.mv,0,s.lost,s.av,fun _=>0,gd,cd,gl,cl,gf,cf⟩
theorem LK.dead_lost {s:LK} (hd:s.dead=true):0 < s.lost.length:=by
  unfold LK.dead at hd
  cases e:s.lost with
  | nil=>rw [e] at hd;cases hd
  | cons a l=>simp
theorem LK.live_lost {s:LK} (hd:s.dead=false):s.lost=[]:=by
  unfold LK.dead at hd
  cases e:s.lost with
  | nil=>rfl
  | cons a l=>rw [e] at hd;cases hd
theorem kis_dead {w:World} {K:Nat} {F:Nat→Prop} {s:LK} (h:KIs_ w K F s) (hd:s.dead=true):∃ gd cd gl cl gf cf,(s.dv gd cd gl cl gf cf).At w K∧∀ k,F k↔(s.dv gd cd gl cl gf cf).own K k:=by
  obtain ⟨gd,cd,gl,cl,gf,cf,h1,h2⟩:=h
  simp only [hd,if_true] at h1
  exact ⟨gd,cd,gl,cl,gf,cf,h1,h2⟩
theorem kis_of_dead {w:World} {K:Nat} {s:LK} {gd:Option Nat} {cd:Nat} {gl:Option Nat} {cl:Nat} {gf:Option Nat} {cf:Nat} (h:(s.dv gd cd gl cl gf cf).At w K) (hd:s.dead=true):KIs_ w K (fun k=>(s.dv gd cd gl cl gf cf).own K k) s:=by
  refine ⟨gd,cd,gl,cl,gf,cf,?_,fun k=>Iff.rfl⟩
  simp only [hd,if_true]
  exact h
theorem acceptsB {x y:Bool} (h:x=y) {B:Nat} {fn:Nat} {z:World} {a:Array Value} (hc:Calls Tryz.prog fn a z fun e w'=>e=.returned (.bool x)∧Below z.heap.size z w'):Calls Tryz.prog fn a z fun e w'=>e=.returned (.bool y)∧Below z.heap.size z w':=by rw [← h];exact hc
theorem progHeard (s:LK) (hi:IvL s) (w:World) (K:Nat) (F:Nat→Prop) (hK:KIs_ w K F s) (gb o cap:Nat) (b:List UInt8) (hb:BytesIn w (some ⟨gb,o,none⟩) b) (hbn:b.length≤10000000) (hcap:b.length≤cap) (ho:¬ otherB b) :
    Calls Tryz.prog 21 #[.pointer (some ⟨K,0,none⟩),.slice (some ⟨gb,o,none⟩) b.length cap] w (PDid w K F (s.heard b)):=by
  unfold LK.heard
  cases hd:s.dead with
  | true =>
    rw [if_pos rfl]
    obtain ⟨gd,cd,gl,cl,gf,cf,h,hF⟩:=kis_dead hK hd
    refine (heardDeadV _ K w h (LK.dead_lost hd) _).mono ?_
    exact fun e y hh=>TupRet.did (d:=⟨[],5,s⟩) hh hF (fun ha=>kis_of_dead ha hd)
  | false =>
    rw [if_neg (by simp)]
    have hl:=LK.live_lost hd
    obtain ⟨gd,cd,gl,cl,gf,cf,h,hF⟩:=kis_alive hK hl
    have hrej:∀ f,unpackR b=some f→(∀ z a cp,Below w.heap.size w z→Calls Tryz.prog 41 #[.pointer (some ⟨K,0,none⟩),f.typed a cp] z fun e w'=>e=.returned (.bool false)∧Below z.heap.size z w')→Calls Tryz.prog 21 #[.pointer (some ⟨K,0,none⟩),.slice (some ⟨gb,o,none⟩) b.length cap] w (PDid w K F ⟨[],3,s⟩):=by
      intro f hR AV
      refine (heardRejV _ K w h hl gb o cap b hb hbn hcap f hR AV).mono ?_
      exact fun e y hh=>TupRet.did (d:=⟨[],3,s⟩) hh hF (fun ha=>kis_of ha hl)
    cases hR:unpackR b with
    | none =>
      refine (heardNoV _ K w h hl gb o cap b hb hbn hcap hR).mono ?_
      exact fun e y hh=>TupRet.did (d:=⟨[],3,s⟩) hh hF (fun ha=>kis_of ha hl)
    | some f =>
      show Calls _ _ _ _ (PDid w K F (s.heardF f))
      have hrej:=hrej f hR
      obtain ⟨fok,fk1,fk9⟩:=unpackR_ok hR
      obtain ⟨⟨f0,f4⟩,hpl,hagr⟩:=Fr.okP fok
      have parts:=Fr.ok_parts fok
      have hk:=hi.conf.1
      have no5:f.kind≠5:=fun e=>ho ⟨f,hR,.inl e⟩
      have no6:f.kind≠6:=fun e=>ho ⟨f,hR,.inr (.inl e)⟩
      have hvw:f.kind≠1→f.view=0:=fun e=>Classical.byContradiction fun e2=>ho ⟨f,hR,.inr (.inr ⟨e,e2⟩)⟩
      have hcase:f.kind=1∨f.kind=2∨f.kind=3∨f.kind=4∨f.kind=7∨f.kind=8∨f.kind=9:=by omega
      have hd0:∀ fr:Int,0≤fr→(decide (0≤fr) && decide (fr < s.kp) && (fr != s.me))=(decide (fr < s.kp) && (fr != s.me)):=fun fr e=>by rw [decide_eq_true e];rfl
      unfold LK.heardF
      by_cases hs:f.frm=s.me∨s.kp≤f.frm
      · have hbF:(decide (0≤f.frm) && decide (f.frm < s.kp) && (f.frm != s.me))=false:=by
          rw [hd0 _ f0]
          rcases hs with e | e
          · rw [e];simp
          · rw [decide_eq_false (by omega)];rfl
        rcases hcase with e | e | e | e | e | e | e
        · have hlok:=parts.2.2.1 (by rw [e];decide)
          rw [if_neg (by omega),if_pos e]
          have et:∀ a cp,f.typed a cp=.iface 149 (.agg #[.int .i64 f.line.c,.int .i64 f.line.t,.string ⟨f.line.s.toArray⟩]):=fun a cp=>by unfold Fr.typed;rw [if_pos e]
          refine heardDid s gd cd gl cl gf cf K w h hl F hF gb o cap b hb hbn hcap f hR (fun z a cp hz=>by rw [et];exact acceptsSay K z _ _ _) _ (fun z g c hz hol=>?_)
          rw [et]
          refine (hearSayT (HearDid w K s (s.pv gd cd gl cl gf cf) (s.say f.line)) K z _ _ _ (fun z1 hz1=>?_)).mono (fun e y q=>by first | exact q.2 | (obtain ⟨_,_,_,_,q⟩:=q;exact q))
          exact (hearSayD s gd cd gl cl gf cf K w h hl hi f.line (Ln.ok_fits hlok) z1 (hz.trans (hz1.mono hz.size))).mono fun e y q=>by
            obtain ⟨⟨a,n,c,e1⟩,q2⟩:=q.form
            exact ⟨a,n,c,e1,q2⟩
        · rw [if_neg (by omega),if_neg (by omega),if_pos hs]
          refine hrej (fun z a cp hz=>?_)
          have et:f.typed a cp=.iface 153 (.agg #[.int .i64 f.frm,.int .i64 0,.int .i64 f.place,.int .i64 f.agreed,.int .i64 f.line.c,.int .i64 f.line.t,.string ⟨f.line.s.toArray⟩]):=by unfold Fr.typed;rw [if_neg (by omega),if_pos e,hvw (by omega)]
          rw [et]
          exact acceptsPrepare _ K z (h.below hz) hk _ _ _ _ _ _ false hbF
        · rw [if_neg (by omega),if_neg (by omega),if_pos hs]
          refine hrej (fun z a cp hz=>?_)
          have et:f.typed a cp=.iface 204 (.agg #[.int .i64 f.frm,.int .i64 0,.int .i64 f.place]):=by unfold Fr.typed;rw [if_neg (by omega),if_neg (by omega),if_pos e,hvw (by omega)]
          rw [et]
          exact acceptsB (B:=K) hbF (acceptsHold _ K z (h.below hz) _ _ _)
        · rw [if_neg (by omega),if_neg (by omega),if_pos hs]
          refine hrej (fun z a cp hz=>?_)
          have et:f.typed a cp=.iface 156 (.agg #[.int .i64 f.frm,.int .i64 0,.int .i64 f.agreed]):=by unfold Fr.typed;rw [if_neg (by omega),if_neg (by omega),if_neg (by omega),if_pos e,hvw (by omega)]
          rw [et]
          exact acceptsBeat _ K z (h.below hz) hk _ _ false hbF
        · rw [if_neg (by omega),if_neg (by omega),if_pos hs]
          refine hrej (fun z a cp hz=>?_)
          have et:f.typed a cp=.iface 158 (.agg #[.int .i64 f.frm,.int .i64 0,.int .i64 f.agreed,.slice a f.lines.length cp]):=by unfold Fr.typed;rw [if_neg (by omega),if_neg (by omega),if_neg (by omega),if_neg (by omega),if_neg (by omega),if_neg (by omega),if_pos e,hvw (by omega)]
          rw [et]
          exact acceptsBegin _ K z (h.below hz) hk _ _ _ _ _ false hbF
        · rw [if_neg (by omega),if_neg (by omega),if_pos hs]
          refine hrej (fun z a cp hz=>?_)
          have et:f.typed a cp=.iface 209 (.agg #[.int .i64 f.frm,.int .i64 0]):=by unfold Fr.typed;rw [if_neg (by omega),if_neg (by omega),if_neg (by omega),if_neg (by omega),if_neg (by omega),if_neg (by omega),if_neg (by omega),if_pos e,hvw (by omega)]
          rw [et]
          exact acceptsB (B:=K) hbF (acceptsLag _ K z (h.below hz) _ _)
        · rw [if_pos e]
          refine hrej (fun z a cp hz=>?_)
          obtain ⟨x,et⟩:=Fr.typed9 e a cp
          rw [et]
          exact acceptsTold K z x
      · have hbT:(decide (0≤f.frm) && decide (f.frm < s.kp) && (f.frm != s.me))=true:=by
          rw [hd0 _ f0,decide_eq_true (by omega)]
          simp only [Bool.true_and,bne_iff_ne]
          exact fun e=>hs (.inl e)
        rcases hcase with e | e | e | e | e | e | e
        · have hlok:=parts.2.2.1 (by rw [e];decide)
          rw [if_neg (by omega),if_pos e]
          have et:∀ a cp,f.typed a cp=.iface 149 (.agg #[.int .i64 f.line.c,.int .i64 f.line.t,.string ⟨f.line.s.toArray⟩]):=fun a cp=>by unfold Fr.typed;rw [if_pos e]
          refine heardDid s gd cd gl cl gf cf K w h hl F hF gb o cap b hb hbn hcap f hR (fun z a cp hz=>by rw [et];exact acceptsSay K z _ _ _) _ (fun z g c hz hol=>?_)
          rw [et]
          refine (hearSayT (HearDid w K s (s.pv gd cd gl cl gf cf) (s.say f.line)) K z _ _ _ (fun z1 hz1=>?_)).mono (fun e y q=>by first | exact q.2 | (obtain ⟨_,_,_,_,q⟩:=q;exact q))
          exact (hearSayD s gd cd gl cl gf cf K w h hl hi f.line (Ln.ok_fits hlok) z1 (hz.trans (hz1.mono hz.size))).mono fun e y q=>by
            obtain ⟨⟨a,n,c,e1⟩,q2⟩:=q.form
            exact ⟨a,n,c,e1,q2⟩
        · have et:∀ a cp,f.typed a cp=.iface 153 (.agg #[.int .i64 f.frm,.int .i64 0,.int .i64 f.place,.int .i64 f.agreed,.int .i64 f.line.c,.int .i64 f.line.t,.string ⟨f.line.s.toArray⟩]):=fun a cp=>by unfold Fr.typed;rw [if_neg (by omega),if_pos e,hvw (by omega)]
          rw [if_neg (by omega),if_neg (by omega),if_neg hs]
          by_cases hz0:f.frm=0
          · rw [if_neg (fun q=>q.2 hz0)]
            have hm:s.me≠0:=fun q=>hs (.inl (by omega))
            unfold LK.heardK
            rw [if_neg hm,if_pos e]
            refine heardDid s gd cd gl cl gf cf K w h hl F hF gb o cap b hb hbn hcap f hR (fun z a cp hz=>by rw [et];exact acceptsB (B:=K) (by rw [hz0];rfl) (acceptsPrepare _ K z (h.below hz) hk _ _ _ _ _ _ true hbT)) _ (fun z g c hz hol=>?_)
            rw [et]
            exact hearPrepD s gd cd gl cl gf cf K w h hl hi hm f.frm f.place f.agreed hpl hagr f.line (Ln.ok_fits (parts.2.2.1 (by rw [e];decide))) f rfl rfl rfl rfl z hz
          · rw [if_pos ⟨.inl e,hz0⟩]
            refine hrej (fun z a cp hz=>?_)
            rw [et]
            exact acceptsB (B:=K) (by rw [beq_false_of_ne hz0];rfl) (acceptsPrepare _ K z (h.below hz) hk _ _ _ _ _ _ true hbT)
        · have et:∀ a cp,f.typed a cp=.iface 204 (.agg #[.int .i64 f.frm,.int .i64 0,.int .i64 f.place]):=fun a cp=>by unfold Fr.typed;rw [if_neg (by omega),if_neg (by omega),if_pos e,hvw (by omega)]
          rw [if_neg (by omega),if_neg (by omega),if_neg hs,if_neg (by omega)]
          refine heardDid s gd cd gl cl gf cf K w h hl F hF gb o cap b hb hbn hcap f hR (fun z a cp hz=>by rw [et];exact acceptsB (B:=K) hbT (acceptsHold _ K z (h.below hz) _ _ _)) _ (fun z g c hz hol=>?_)
          rw [et]
          exact hearHoldD s gd cd gl cl gf cf K w h hl hi f f.frm f.place rfl rfl e (by omega) hpl.1 z hz
        · have et:∀ a cp,f.typed a cp=.iface 156 (.agg #[.int .i64 f.frm,.int .i64 0,.int .i64 f.agreed]):=fun a cp=>by unfold Fr.typed;rw [if_neg (by omega),if_neg (by omega),if_neg (by omega),if_pos e,hvw (by omega)]
          rw [if_neg (by omega),if_neg (by omega),if_neg hs]
          by_cases hz0:f.frm=0
          · rw [if_neg (fun q=>q.2 hz0)]
            have hm:s.me≠0:=fun q=>hs (.inl (by omega))
            unfold LK.heardK
            rw [if_neg hm,if_neg (by omega),if_pos e]
            refine heardDid s gd cd gl cl gf cf K w h hl F hF gb o cap b hb hbn hcap f hR (fun z a cp hz=>by rw [et];exact acceptsB (B:=K) (by rw [hz0];rfl) (acceptsBeat _ K z (h.below hz) hk _ _ true hbT)) _ (fun z g c hz hol=>?_)
            rw [et]
            exact hearBeatD s gd cd gl cl gf cf K w h hl hi hm f.frm f.agreed hagr f rfl rfl z hz
          · rw [if_pos ⟨.inr (.inl e),hz0⟩]
            refine hrej (fun z a cp hz=>?_)
            rw [et]
            exact acceptsB (B:=K) (by rw [beq_false_of_ne hz0];rfl) (acceptsBeat _ K z (h.below hz) hk _ _ true hbT)
        · have et:∀ a cp,f.typed a cp=.iface 158 (.agg #[.int .i64 f.frm,.int .i64 0,.int .i64 f.agreed,.slice a f.lines.length cp]):=fun a cp=>by unfold Fr.typed;rw [if_neg (by omega),if_neg (by omega),if_neg (by omega),if_neg (by omega),if_neg (by omega),if_neg (by omega),if_pos e,hvw (by omega)]
          rw [if_neg (by omega),if_neg (by omega),if_neg hs]
          by_cases hz0:f.frm=0
          · rw [if_neg (fun q=>q.2 hz0)]
            have hm:s.me≠0:=fun q=>hs (.inl (by omega))
            unfold LK.heardK
            rw [if_neg hm,if_neg (by omega),if_neg (by omega),if_pos e]
            refine heardDid s gd cd gl cl gf cf K w h hl F hF gb o cap b hb hbn hcap f hR (fun z a cp hz=>by rw [et];exact acceptsB (B:=K) (by rw [hz0];rfl) (acceptsBegin _ K z (h.below hz) hk _ _ _ _ _ true hbT)) _ (fun z g c hz hol=>?_)
            rw [et]
            exact hearBeginD s gd cd gl cl gf cf K w h hl hi hm f.frm f.agreed hagr f rfl rfl (parts.2.2.2.2.1 (by rw [e];decide)) z hz g c hol
          · rw [if_pos ⟨.inr (.inr e),hz0⟩]
            refine hrej (fun z a cp hz=>?_)
            rw [et]
            exact acceptsB (B:=K) (by rw [beq_false_of_ne hz0];rfl) (acceptsBegin _ K z (h.below hz) hk _ _ _ _ _ true hbT)
        · have et:∀ a cp,f.typed a cp=.iface 209 (.agg #[.int .i64 f.frm,.int .i64 0]):=fun a cp=>by unfold Fr.typed;rw [if_neg (by omega),if_neg (by omega),if_neg (by omega),if_neg (by omega),if_neg (by omega),if_neg (by omega),if_neg (by omega),if_pos e,hvw (by omega)]
          rw [if_neg (by omega),if_neg (by omega),if_neg hs,if_neg (by omega)]
          refine heardDid s gd cd gl cl gf cf K w h hl F hF gb o cap b hb hbn hcap f hR (fun z a cp hz=>by rw [et];exact acceptsB (B:=K) hbT (acceptsLag _ K z (h.below hz) _ _)) _ (fun z g c hz hol=>?_)
          rw [et]
          exact hearLagD s gd cd gl cl gf cf K w h hl hi f f.frm rfl e z hz
        · rw [if_pos e]
          refine hrej (fun z a cp hz=>?_)
          obtain ⟨x,et⟩:=Fr.typed9 e a cp
          rw [et]
          exact acceptsTold K z x
theorem progTick (s:LK) (hi:IvL s) (hm:s.me=0) (w:World) (K:Nat) (F:Nat→Prop) (hK:KIs_ w K F s) :
    Calls Tryz.prog 27 #[.pointer (some ⟨K,0,none⟩)] w (PDid w K F s.tick):=by
  unfold LK.tick
  cases hd:s.dead with
  | true =>
    rw [if_pos rfl]
    obtain ⟨gd,cd,gl,cl,gf,cf,h,hF⟩:=kis_dead hK hd
    refine (tickDeadV _ K w h (LK.dead_lost hd)).mono ?_
    exact fun e y hh=>TupRet.did (d:=⟨[],5,s⟩) hh hF (fun ha=>kis_of_dead ha hd)
  | false =>
    rw [if_neg (by simp)]
    have hl:=LK.live_lost hd
    obtain ⟨gd,cd,gl,cl,gf,cf,h,hF⟩:=kis_alive hK hl
    refine (tickHeadV _ K w h hl hi.conf.1 hi.v0.1 hi.v0.2 hm s.kp.toNat hi.conf.nat.2.symm (fun j=>(hi.hs j).1) hi.l20).mono ?_
    exact fun e y hh=>TupRet.did (d:=⟨(othersL s.me s.kp.toNat).map fun t=>⟨false,t,packS (s.reminder t)⟩,0,s⟩) hh hF (fun ha=>kis_of ha hl)
theorem progArm (s:LK) (n:Int) (w:World) (K:Nat) (F:Nat→Prop) (hK:KIs_ w K F s) :
    Calls Tryz.prog 20 #[.pointer (some ⟨K,0,none⟩),.int .i64 n] w fun e w'=>e=.returned (.tuple #[])∧KIs_ w' K F (s.armed n)∧Touch F w w':=by
  cases hd:s.dead with
  | true =>
    obtain ⟨gd,cd,gl,cl,gf,cf,h,hF⟩:=kis_dead hK hd
    refine (armV _ K w h n).mono ?_
    rintro e y ⟨he,hc⟩
    have hne:¬ s.lost=[]:=fun q=>by have:=LK.dead_lost hd;rw [q] at this;cases this
    change Chg w y K (s.dv gd cd gl cl gf cf) (if s.lost=[] then _ else _) at hc
    rw [if_neg hne] at hc
    have hd':(s.armed n).dead=true:=hd
    obtain ⟨gd',cd',gl',cl',gf',cf',q1,q2⟩:=kis_of_dead (s:=s.armed n) (gd:=gd) (cd:=cd) (gl:=gl) (cl:=cl) (gf:=gf) (cf:=cf) hc.at_ hd'
    exact ⟨he,⟨gd',cd',gl',cl',gf',cf',q1,fun k=>(hF k).trans (q2 k)⟩,hc.tch.mono (fun i _ e=>(hF i).2 e)⟩
  | false =>
    have hl:=LK.live_lost hd
    obtain ⟨gd,cd,gl,cl,gf,cf,h,hF⟩:=kis_alive hK hl
    refine (armV _ K w h n).mono ?_
    rintro e y ⟨he,hc⟩
    change Chg w y K (s.pv gd cd gl cl gf cf) (if s.lost=[] then _ else _) at hc
    rw [if_pos hl] at hc
    obtain ⟨gd',cd',gl',cl',gf',cf',q1,q2⟩:=kis_of (s:=s.armed n) (gd:=gd) (cd:=cd) (gl:=gl) (cl:=cl) (gf:=gf) (cf:=cf) hc.at_ hl
    exact ⟨he,⟨gd',cd',gl',cl',gf',cf',q1,fun k=>(hF k).trans (q2 k)⟩,hc.tch.mono (fun i _ e=>(hF i).2 e)⟩
end
end Go.Proofs.YtolififimldmlaaGreat
