import Derived.Test.YtolififimldmlaaGreatPart47
import Derived.Test.YtolififimldmlaaGreatPart38
import Derived.Test.YtolififimldmlaaGreatPart40
import Derived.Test.YtolififimldmlaaGreatPart41
import Derived.Test.YtolififimldmlaaGreatPart48
import Derived.Test.YtolififimldmlaaGreatPart29
set_option linter.unusedVariables false
set_option linter.unusedSimpArgs false
set_option maxRecDepth 100000
set_option maxHeartbeats 16000000
namespace Go.Proofs.YtolififimldmlaaGreat
section
open Go.RowKit
def LK.rv (s:LK) (g:Option Nat) (c:Nat):RV:=⟨s.kp,s.me,s.pa,s.d,s.arm,false,[],s.m,s.agreed,s.hs,g,c,[],none,0⟩
theorem lines_ne {w:World} {K:Nat} {cur:Array Value} {e:TypeId} {f:Nat × Nat} {g:Option Nat} {ls:List Ln} {x:Int} (hb:w.heap[K]?=some (.cells cur e f)) (h2:cur[2]?=some (.int .i64 x)) (h:LinesAt w (g.map fun k=>(⟨k,0,none⟩:Addr)) ls) (hn:ls≠[]):g≠some K:=by
  rintro rfl
  cases ls with
  | nil=>exact hn rfl
  | cons l ls =>
    obtain ⟨q,o,eq,_,_,h3⟩:=h 0 (by simp)
    cases eq
    have h4:=cell_of_heap hb 2
    have e1:(0+0 * 3+2:Nat)=2:=rfl
    first
      | rw [e1] at h3;rw [h3,h2] at h4;cases h4
      | (rw [h2] at h4;simp at h3;rw [h3] at h4;cases h4)
theorem ris_dead {w:World} {K:Nat} {G:Nat→Prop} {s:LK} (h:RIs w K G s) (hd:s.dead=true):∃ v:RV,v.At w K∧v.dead=true:=by
  obtain ⟨arm,m,ag,hs,g,c,h1,h2,h3,_,_⟩:=h
  rw [hd] at h1
  exact ⟨⟨s.kp,s.me,s.pa,s.d,arm,true,s.lost,m,ag,hs,g,c,[],none,0⟩,⟨h1,h2,h3,OwnOutsR.none_ _,fun hn=>lines_ne h1 rfl h2 hn,(fun _ k e=>by cases e)⟩,rfl⟩
theorem ris_alive {w:World} {K:Nat} {G:Nat→Prop} {s:LK} (h:RIs w K G s) (hd:s.dead=false):∃ g c,(s.rv g c).At w K∧∀ k,G k↔(k=K∨g=some k):=by
  obtain ⟨arm,m,ag,hs,g,c,h1,h2,h3,h4,h5⟩:=h
  obtain ⟨rfl,rfl,rfl,rfl⟩:=h4 hd
  have hl:s.lost=[]:=by
    unfold LK.dead at hd
    cases e:s.lost with
    | nil=>rfl
    | cons a l=>rw [e] at hd;cases hd
  rw [hd,hl] at h1
  exact ⟨g,c,⟨h1,h2,h3,OwnOutsR.none_ _,fun hn=>lines_ne h1 rfl h2 hn,(fun _ k e=>by cases e)⟩,h5⟩
def RDid (w:World) (K:Nat) (G:Nat→Prop) (d:Did) (e:Ending) (w':World):Prop :=
  ∃ g c G',e=.returned (.tuple #[.slice (g.map fun k=>⟨k,0,none⟩) d.os.length c,.int .i64 d.er])∧OwnOutsR w' g c d.os∧RIs w' K G' d.st∧Touch G w w'∧(∀ k,G' k→G k∨(w.heap.size≤k∧k < w'.heap.size))
theorem NoRet.did {w w':World} {K:Nat} {G:Nat→Prop} {s:LK} {n:Int} {e:Ending} (h:NoRet w n e w') (hK:RIs w K G s):RDid w K G ⟨[],n,s⟩ e w':=by
  obtain ⟨rfl,hb⟩:=h
  exact ⟨none,0,G,rfl,OwnOutsR.none_ _,hK.below hb,Touch.of_belowAll hb _,fun k e=>.inl e⟩
def RFor (v:RV) (s:LK) (d:Did) (u:RV):Prop :=
  (d.er=0∧d.st.lost=[]∧∃ g c sg sc,u=⟨d.st.kp,d.st.me,d.st.pa,d.st.d,d.st.arm,false,[],d.st.m,d.st.agreed,d.st.hs,g,c,d.os,sg,sc⟩∧(d.st.m.ls=[]→g=v.g))∨(∃ inner,d=⟨[],4,s.crash inner⟩∧u={ v with dead:=true,lost:=recBytes inner })
theorem DoneRet.did {w y:World} {K:Nat} {G:Nat→Prop} {s:LK} {g:Option Nat} {c:Nat} {d:Did} {e:Ending} (h:DoneRet w K (s.rv g c) (RFor (s.rv g c) s d) e y) (hG:∀ k,G k↔(k=K∨g=some k)):RDid w K G d e y:=by
  obtain ⟨u,hu,rfl,hc,ho,hsg⟩:=h
  have ht:Touch G w y:=hc.tch.mono (fun i _ e=>by
    rcases e with e | e
    · exact (hG i).2 (.inl e)
    · cases e)
  rcases hu with ⟨he,hl,g',c',sg,sc,rfl,hgg⟩ | ⟨inner,rfl,rfl⟩
  · have hd:d.st.dead=false:=by unfold LK.dead;rw [hl];rfl
    refine ⟨sg,sc,fun k=>k=K∨g'=some k,?_,ho,⟨d.st.arm,d.st.m,d.st.agreed,d.st.hs,g',c',?_,hc.at_.ls,hc.at_.lc,fun _=>⟨rfl,rfl,rfl,rfl⟩,fun k=>Iff.rfl⟩,ht,fun k e=>?_⟩
    · rw [he];rfl
    · rw [hd,hl];exact hc.at_.blk
    · rcases e with e | e
      · exact .inl ((hG k).2 (.inl e))
      · rcases hc.gn with q | q
        · change g'=g at q
          exact .inl ((hG k).2 (.inr (by rw [← q];exact e)))
        · by_cases hn:d.st.m.ls=[]
          · have q2:=hgg hn
            change g'=g at q2
            exact .inl ((hG k).2 (.inr (by rw [← q2];exact e)))
          · exact .inr ⟨q k e,hc.at_.ls.rowlt hn k e⟩
  · have hd:(s.crash inner).dead=true:=by
      unfold LK.dead LK.crash
      have:=recBytes_len inner
      cases e:recBytes inner with
      | nil=>rw [e] at this;simp at this
      | cons a l=>rfl
    refine ⟨none,0,fun k=>k=K∨g=some k,rfl,OwnOutsR.none_ _,⟨s.arm,s.m,s.agreed,s.hs,g,c,?_,hc.at_.ls,hc.at_.lc,fun e=>?_,fun k=>Iff.rfl⟩,ht,fun k e=>.inl ((hG k).2 e)⟩
    · rw [hd];exact hc.at_.blk
    · rw [hd] at e;cases e
theorem IvL.lead {s:LK} (hi:IvL s) (g:Option Nat) (c:Nat):(s.rv g c).Lead :=
  ⟨hi.conf.1,hi.v0.1,hi.v0.2,rfl,hi.l20,hi.ag,by have:=hi.len;have:=hi.l20;show s.d.length≤9900000;omega,hi.arm,rfl⟩
theorem RMov.chg {w y:World} {K:Nat} {v u:RV} (h:RMov w y K v u) (hn:∀ k,u.g=some k→w.heap.size≤k):RChg w y K v u:=⟨h.at_,h.tch,h.sn,.inr hn⟩
theorem RMov.of {w x y:World} {K:Nat} {v u:RV} (hb:Below w.heap.size w x) (hv:v.At w K) (h:RMov x y K v u):RMov w y K v u:=(RChg.same hv hb).mov.trans h
theorem holds_eq (s:LK) (hi:IvL s) (n:Nat):max s.agreed (min n s.m.ls.length)=min (max s.agreed n) s.m.ls.length:=by have:=hi.ag;omega
section
variable (s:LK) (hi:IvL s) (hl:s.lost=[]) (w:World) (K:Nat) (g:Option Nat) (c:Nat) (h:(s.rv g c).At w K)
include hi hl h
theorem refSayD (l:Ln) (hls:l.s.length≤8) (z:World) (hz:Below w.heap.size w z):Calls Tryz.prog 102 #[.pointer (some ⟨K,0,none⟩),.agg #[.int .i64 l.c,.int .i64 l.t,.string ⟨l.s.toArray⟩]] z fun e y=>e=.returned (.tuple #[])∧∃ u,RChg w y K (s.rv g c) u∧RFor (s.rv g c) s (s.say l) u:=by
  have hL:=hi.lead g c
  unfold LK.say
  by_cases hm:s.me=0
  · rw [if_neg (by simpa using hm)]
    refine refSay (s.rv g c) K z (h.below hz) _ hL hm s.kp.toNat hi.conf.nat.2.symm l hls ?_ ?_ ?_ ?_
    · intro ht y g' c' hc
      change l.t≤turnOf s.m.ls l.c at ht
      rw [if_pos ht]
      exact ⟨rfl,_,RChg.of hz h hc,.inl ⟨rfl,hl,g,c,g',c',rfl,fun _=>rfl⟩⟩
    · intro ht h2 y hc
      change turnOf s.m.ls l.c < l.t at ht
      change 20≤s.m.ls.length at h2
      rw [if_neg (by omega),if_pos h2]
      exact ⟨rfl,_,RChg.of hz h hc,.inl ⟨rfl,hl,g,c,none,0,rfl,fun _=>rfl⟩⟩
    · intro ht h2 ha y hc
      change turnOf s.m.ls l.c < l.t at ht
      change s.m.ls.length < 20 at h2
      change s.arm=1 at ha
      rw [if_neg (by omega),if_neg (by omega),if_pos ha]
      exact ⟨rfl,_,RChg.of hz h hc,.inr ⟨_,rfl,rfl⟩⟩
    · intro ht h2 ha y g' c' g2 c2 hc
      change turnOf s.m.ls l.c < l.t at ht
      change s.m.ls.length < 20 at h2
      change s.arm≠1 at ha
      rw [if_neg (by omega),if_neg (by omega),if_neg ha]
      exact ⟨rfl,_,RChg.of hz h hc,.inl ⟨rfl,hl,some g',c',g2,c2,rfl,fun e=>absurd e (by first | (show ¬ (s.m.ls++[_]=[]);simp) | simp)⟩⟩
  · rw [if_pos (by simpa using hm)]
    refine (refSayNot (s.rv g c) K z (h.below hz) hL (fun e=>hm e.symm) l).mono ?_
    rintro e y ⟨rfl,hc⟩
    exact ⟨rfl,_,RChg.of hz h hc,.inl ⟨rfl,hl,g,c,none,0,rfl,fun _=>rfl⟩⟩
theorem refPrepD (hm:s.me≠0) (frm last:Int) (p n:Nat) (l:Ln) (a:Option Addr) (fl cap:Nat) (hn:n≤20) (hp:p≤20) (hls:l.s.length≤8) (f:Fr) (ef:f.frm=frm) (ep:f.place=p) (en:f.agreed=n) (el:f.line=l) (z:World) (hz:Below w.heap.size w z) :
    Calls Tryz.prog 104 #[.pointer (some ⟨K,0,none⟩),.agg #[.int .i64 2,.int .i64 frm,.int .i64 0,.int .i64 p,.int .i64 n,.int .i64 last,.int .i64 l.c,.int .i64 l.t,.string ⟨l.s.toArray⟩,.slice a fl cap]] z fun e y=>e=.returned (.tuple #[])∧∃ u,RChg w y K (s.rv g c) u∧RFor (s.rv g c) s (s.prepared f) u:=by
  have hL:=hi.lead g c
  have hag:=hi.ag
  refine refHeard2 (s.rv g c) K z (h.below hz) _ hL (fun e=>hm e.symm) frm p n last l.c l.t l.s a fl cap (fun z1 hz1=>?_)
  have hw1:=hz.trans (hz1.mono hz.size)
  subst ef el
  have hhe:=holds_eq s hi n
  unfold LK.prepared
  rw [ep]
  refine refLed2 (s.rv g c) K z1 (h.below hw1) _ hL f.frm 0 last p n f.line a fl cap hn hp hls ?_ ?_ ?_ ?_ ?_
  · intro hq ht y hc
    change p=s.m.ls.length+1 at hq
    change f.line.t≤turnOf s.m.ls f.line.c at ht
    rw [if_pos (by omega),if_pos ht]
    exact ⟨rfl,_,RChg.of hw1 h hc,.inl ⟨rfl,hl,g,c,none,0,rfl,fun _=>rfl⟩⟩
  · intro hq ht ha y hc
    change p=s.m.ls.length+1 at hq
    change turnOf s.m.ls f.line.c < f.line.t at ht
    change s.arm=1 at ha
    rw [if_pos (by omega),if_neg (by omega),if_pos ha]
    exact ⟨rfl,_,RChg.of hw1 h hc,.inr ⟨_,rfl,rfl⟩⟩
  · intro hq ht ha y g' c' g2 c2 hc
    change p=s.m.ls.length+1 at hq
    change turnOf s.m.ls f.line.c < f.line.t at ht
    change s.arm≠1 at ha
    rw [if_pos (by omega),if_neg (by omega),if_neg ha]
    refine ⟨rfl,_,RChg.of hw1 h hc,.inl ⟨rfl,hl,some g',c',some g2,c2,?_,fun e=>absurd e (by first | (show ¬ (s.m.ls++[_]=[]);simp) | simp)⟩⟩
    have e1:(s.m.ls++[f.line]).length=s.m.ls.length+1:=by simp
    unfold LK.holding LK.wrote RV.push RV.holds RV.more LK.rv holdO
    dsimp only
    rw [e1,en]
    simp only [Int.toNat_natCast,List.nil_append]
    congr 1
    omega
  · intro hq y g' c' hc
    change s.m.ls.length+1 < p at hq
    rw [if_neg (by omega),if_pos (by omega)]
    exact ⟨rfl,_,RChg.of hw1 h hc,.inl ⟨rfl,hl,g,c,some g',c',rfl,fun _=>rfl⟩⟩
  · intro hq y g' c' hc
    change p≤s.m.ls.length at hq
    rw [if_neg (by omega),if_neg (by omega)]
    refine ⟨rfl,_,RChg.of hw1 h hc,.inl ⟨rfl,hl,g,c,some g',c',?_,fun _=>rfl⟩⟩
    unfold LK.holding RV.push RV.holds LK.rv holdO
    dsimp only
    rw [en]
    simp only [Int.toNat_natCast,List.nil_append]
    congr 1
theorem refBeatD (hm:s.me≠0) (frm place last lc lt:Int) (sb:List UInt8) (n:Nat) (a:Option Addr) (fl cap:Nat) (hn:n≤20) (f:Fr) (ef:f.frm=frm) (en:f.agreed=n) (z:World) (hz:Below w.heap.size w z) :
    Calls Tryz.prog 104 #[.pointer (some ⟨K,0,none⟩),.agg #[.int .i64 4,.int .i64 frm,.int .i64 0,.int .i64 place,.int .i64 n,.int .i64 last,.int .i64 lc,.int .i64 lt,.string ⟨sb.toArray⟩,.slice a fl cap]] z fun e y=>e=.returned (.tuple #[])∧∃ u,RChg w y K (s.rv g c) u∧RFor (s.rv g c) s (s.beaten f) u:=by
  have hL:=hi.lead g c
  have hag:=hi.ag
  refine refHeard4 (s.rv g c) K z (h.below hz) _ hL (fun e=>hm e.symm) frm place n last lc lt sb a fl cap (fun z1 hz1=>?_)
  have hw1:=hz.trans (hz1.mono hz.size)
  subst ef
  have hhe:=holds_eq s hi n
  unfold LK.beaten
  rw [en]
  refine refLed4 (s.rv g c) K z1 (h.below hw1) _ hL f.frm 0 place last lc lt sb a fl cap n hn ?_ ?_
  · intro hq y g' c' hc
    change s.m.ls.length < n at hq
    rw [if_pos (by omega)]
    exact ⟨rfl,_,RChg.of hw1 h hc,.inl ⟨rfl,hl,g,c,some g',c',rfl,fun _=>rfl⟩⟩
  · intro hq y g' c' hc
    change n≤s.m.ls.length at hq
    rw [if_neg (by omega)]
    refine ⟨rfl,_,RChg.of hw1 h hc,.inl ⟨rfl,hl,g,c,some g',c',?_,fun _=>rfl⟩⟩
    unfold LK.holding RV.push RV.holds LK.rv holdO
    dsimp only
    simp only [Int.toNat_natCast,List.nil_append]
    congr 1
theorem refBegunD (hm:s.me≠0) (frm place last lc lt:Int) (sb:List UInt8) (n:Nat) (hn:n≤20) (f:Fr) (ef:f.frm=frm) (en:f.agreed=n) (hok:linesOk f.lines=true) (z:World) (hz:Below w.heap.size w z) (g0:Option Nat) (c0:Nat) (ho:OwnLines w z g0 c0 f.lines) :
    Calls Tryz.prog 104 #[.pointer (some ⟨K,0,none⟩),.agg #[.int .i64 7,.int .i64 frm,.int .i64 0,.int .i64 place,.int .i64 n,.int .i64 last,.int .i64 lc,.int .i64 lt,.string ⟨sb.toArray⟩,.slice (g0.map fun k=>⟨k,0,none⟩) f.lines.length c0]] z fun e y=>e=.returned (.tuple #[])∧∃ u,RChg w y K (s.rv g c) u∧RFor (s.rv g c) s (s.begun f) u:=by
  have hL:=hi.lead g c
  have hag:=hi.ag
  refine refHeard7 (s.rv g c) K z (h.below hz) _ hL (fun e=>hm e.symm) frm place n last lc lt sb _ _ _ (fun z1 hz1=>?_)
  have hw1:=hz.trans (hz1.mono hz.size)
  subst ef
  have hhe:=holds_eq s hi n
  have hbl:=linesBytes_len hok
  unfold LK.begun
  refine refBegun (s.rv g c) K z1 (h.below hw1) _ hL f.frm place last lc lt sb n hn w g0 c0 f.lines (ho.below hz1) hok (by omega) ?_ ?_ ?_
  · intro hq ha y hc
    change s.m.ls.length < f.lines.length at hq
    change s.arm=1 at ha
    rw [if_pos hq,if_pos ha]
    exact ⟨rfl,_,RChg.of hw1 h hc,.inr ⟨_,rfl,rfl⟩⟩
  · intro hq ha y g' c' hc
    change s.m.ls.length < f.lines.length at hq
    change s.arm≠1 at ha
    rw [if_pos hq,if_neg ha]
    refine ⟨rfl,_,(RMov.of hw1 h hc).chg (fun k e=>ho.new k e),.inl ⟨rfl,hl,g0,c0,some g',c',?_,fun e=>by change f.lines=[] at e;rw [e] at hq;exact absurd hq (Nat.not_lt_zero _)⟩⟩
    unfold LK.holding LK.wrote RV.push RV.holds RV.took LK.rv holdO
    dsimp only
    rw [en]
    simp only [Int.toNat_natCast,List.nil_append]
    congr 1
    omega
  · intro hq y g' c' hc
    change f.lines.length≤s.m.ls.length at hq
    rw [if_neg (by omega)]
    refine ⟨rfl,_,RChg.of hw1 h hc,.inl ⟨rfl,hl,g,c,some g',c',?_,fun _=>rfl⟩⟩
    unfold LK.holding RV.push RV.holds LK.rv holdO
    dsimp only
    rw [en]
    simp only [Int.toNat_natCast,List.nil_append]
    congr 1
theorem refHoldD (agreed last lc lt:Int) (sb:List UInt8) (t p:Nat) (a:Option Addr) (fl cap:Nat) (f:Fr) (ef:f.frm=t) (ep:f.place=p) (h3:f.kind=3) (ht:t < 5) (z:World) (hz:Below w.heap.size w z) :
    Calls Tryz.prog 104 #[.pointer (some ⟨K,0,none⟩),.agg #[.int .i64 3,.int .i64 t,.int .i64 0,.int .i64 p,.int .i64 agreed,.int .i64 last,.int .i64 lc,.int .i64 lt,.string ⟨sb.toArray⟩,.slice a fl cap]] z fun e y=>e=.returned (.tuple #[])∧∃ u,RChg w y K (s.rv g c) u∧RFor (s.rv g c) s (s.heardK f) u:=by
  have hL:=hi.lead g c
  have hkn:=hi.conf.nat
  unfold LK.heardK
  by_cases hm:s.me=0
  · rw [if_pos hm,if_pos h3]
    refine refHeard3 (s.rv g c) K z (h.below hz) _ hL hm t p agreed last lc lt sb a fl cap (fun z1 hz1=>?_)
    have hw1:=hz.trans (hz1.mono hz.size)
    unfold LK.held
    rw [ef,ep,Int.toNat_natCast]
    rcases Nat.lt_or_ge s.m.ls.length p with q | q
    · rw [if_pos (by omega)]
      refine (refHeldNo (s.rv g c) K z1 (h.below hw1) hL 0 agreed last lc lt sb a fl cap t p q).mono ?_
      rintro e y ⟨rfl,hc⟩
      exact ⟨rfl,_,RChg.of hw1 h hc,.inl ⟨rfl,hl,g,c,none,0,rfl,fun _=>rfl⟩⟩
    · rw [if_neg (by omega)]
      have hh1:∀ j,0≤holdsSet s.hs t (max (s.hs t) p) j∧holdsSet s.hs t (max (s.hs t) p) j≤s.m.ls.length:=by
        intro j
        have:=hi.hs j
        have:=hi.hs t
        unfold holdsSet
        split <;> omega
      have hge:=heldFew_ge _ s.me s.kp.toNat hkn.1 hi.conf.rng (fun j=>(hh1 j).1)
      have hle:=heldFew_le _ s.me s.kp.toNat hkn.1 hi.conf.rng s.m.ls.length (fun j=>(hh1 j).2)
      have hiff:=fun x=>heldFew_iff (holdsSet s.hs t (max (s.hs t) p)) s.me s.kp.toNat hkn.1 hi.conf.rng x
      refine refHeld (s.rv g c) K z1 (h.below hw1) _ hL 0 agreed last lc lt sb a fl cap t p s.kp.toNat (heldFew (holdsSet s.hs t (max (s.hs t) p)) s.me s.kp.toNat).toNat hkn.2.symm ht q _ rfl (by show _≤s.m.ls.length;omega) (fun x=>?_) ?_
      · refine (hiff x).trans ?_
        omega
      · intro y g' c' hc
        exact ⟨rfl,_,RChg.of hw1 h hc,.inl ⟨rfl,hl,g,c,g',c',rfl,fun _=>rfl⟩⟩
  · rw [if_neg hm,if_neg (by omega),if_neg (by omega),if_neg (by omega)]
    exact refHeard3n (s.rv g c) K z (h.below hz) _ hL (fun e=>hm e.symm) t p agreed last lc lt sb a fl cap (fun z1 hz1=>⟨_,RChg.same h (hz.trans (hz1.mono hz.size)),.inl ⟨rfl,hl,g,c,none,0,rfl,fun _=>rfl⟩⟩)
theorem refLagD (frm place agreed last lc lt:Int) (sb:List UInt8) (a:Option Addr) (fl cap:Nat) (f:Fr) (ef:f.frm=frm) (h8:f.kind=8) (z:World) (hz:Below w.heap.size w z) :
    Calls Tryz.prog 104 #[.pointer (some ⟨K,0,none⟩),.agg #[.int .i64 8,.int .i64 frm,.int .i64 0,.int .i64 place,.int .i64 agreed,.int .i64 last,.int .i64 lc,.int .i64 lt,.string ⟨sb.toArray⟩,.slice a fl cap]] z fun e y=>e=.returned (.tuple #[])∧∃ u,RChg w y K (s.rv g c) u∧RFor (s.rv g c) s (s.heardK f) u:=by
  have hL:=hi.lead g c
  unfold LK.heardK
  subst ef
  by_cases hm:s.me=0
  · rw [if_pos hm,if_neg (by omega)]
    exact refHeard8 (s.rv g c) K z (h.below hz) _ hL hm f.frm place agreed last lc lt sb a fl cap (by show 0≤1000;omega) (fun y g' c' hc=>⟨_,RChg.of hz h hc,.inl ⟨rfl,hl,g,c,some g',c',rfl,fun _=>rfl⟩⟩)
  · rw [if_neg hm,if_neg (by omega),if_neg (by omega),if_neg (by omega)]
    exact refHeard8n (s.rv g c) K z (h.below hz) _ hL (fun e=>hm e.symm) f.frm place agreed last lc lt sb a fl cap (fun z1 hz1=>⟨_,RChg.same h (hz.trans (hz1.mono hz.size)),.inl ⟨rfl,hl,g,c,none,0,rfl,fun _=>rfl⟩⟩)
end
theorem docHeard (s:LK) (hi:IvL s) (w:World) (K:Nat) (G:Nat→Prop) (hK:RIs w K G s) (b:List UInt8) (hbn:b.length≤10000000) (ho:¬ otherB b) :
    Calls Tryz.prog 63 #[.pointer (some ⟨K,0,none⟩),.string ⟨b.toArray⟩] w (RDid w K G (s.heard b)):=by
  unfold LK.heard
  cases hd:s.dead with
  | true =>
    rw [if_pos rfl]
    obtain ⟨v,hv,hvd⟩:=ris_dead hK hd
    exact (refHeardDead v K w hv hvd _).mono fun e y q=>q.did hK
  | false =>
    rw [if_neg (by simp)]
    have hl:s.lost=[]:=by
      unfold LK.dead at hd
      cases e:s.lost with
      | nil=>rfl
      | cons a l=>rw [e] at hd;cases hd
    obtain ⟨g,c,h,hG⟩:=ris_alive hK hd
    cases hR:unpackR b with
    | none=>exact (refHeardNo _ K w h rfl b hbn hR).mono fun e y q=>q.did hK
    | some f =>
      show Calls _ _ _ _ (RDid w K G (s.heardF f))
      obtain ⟨fok,fk1,fk9⟩:=unpackR_ok hR
      obtain ⟨⟨f0,f4⟩,⟨p0,p1⟩,⟨a0,a1⟩⟩:=Fr.okP fok
      have parts:=Fr.ok_parts fok
      have hk:=hi.conf.1
      have no5:f.kind≠5:=fun e=>ho ⟨f,hR,.inl e⟩
      have no6:f.kind≠6:=fun e=>ho ⟨f,hR,.inr (.inl e)⟩
      have hvw:f.kind≠1→f.view=0:=fun e=>Classical.byContradiction fun e2=>ho ⟨f,hR,.inr (.inr ⟨e,e2⟩)⟩
      have hcase:f.kind=1∨f.kind=2∨f.kind=3∨f.kind=4∨f.kind=7∨f.kind=8∨f.kind=9:=by omega
      have hle:s.kp≤5:=by rcases hk with e | e <;> omega
      clear ho
      obtain ⟨kind,frm,view,place,agreed,last,⟨lc,lt,sb⟩,ls⟩:=f
      dsimp only at *
      obtain ⟨t,rfl⟩:∃ t:Nat,frm=t:=⟨frm.toNat,by omega⟩
      obtain ⟨p,rfl⟩:∃ p:Nat,place=p:=⟨place.toNat,by omega⟩
      obtain ⟨n,rfl⟩:∃ n:Nat,agreed=n:=⟨agreed.toNat,by omega⟩
      unfold LK.heardF
      dsimp only
      by_cases e9:kind=9
      · subst e9
        rw [if_pos rfl]
        exact (refHeard9 _ K w h rfl b hbn _ _ _ _ _ _ _ _ _ hR).mono fun e y q=>q.did hK
      rw [if_neg e9]
      by_cases e1:kind=1
      · subst e1
        rw [if_pos rfl]
        have hlok:=parts.2.2.1 (by decide)
        exact (refHeardSay _ K w h _ rfl b hbn _ _ _ _ _ _ _ _ _ hR (fun z hz=>refSayD s hi hl w K g c h ⟨lc,lt,sb⟩ (Ln.ok_len hlok) z hz)).mono fun e y q=>q.did hG
      rw [if_neg e1]
      obtain rfl:=hvw e1
      by_cases hs:(t:Int)=s.me∨s.kp≤t
      · rw [if_pos hs]
        by_cases hs1:(t:Int)=s.me
        · rw [hs1] at hR
          exact (refRej1 (s.rv g c) K w h rfl b hbn kind p n last lc lt sb ls hR e1 e9).mono fun e y q=>q.did hK
        · exact (refRej2 (s.rv g c) K w h rfl b hbn kind t p n last lc lt sb ls hR e1 e9 hs1 (by show s.kp≤t;omega)).mono fun e y q=>q.did hK
      · rw [if_neg hs]
        have hs1:(t:Int)≠s.me:=fun e=>hs (.inl e)
        have hs2:(t:Int) < s.kp:=by omega
        by_cases hz0:t=0
        · subst hz0
          rw [if_neg (fun q=>q.2 rfl)]
          have hm:s.me≠0:=fun q=>hs1 (by rw [q];rfl)
          rcases hcase with e | e | e | e | e | e | e
          · exact absurd e e1
          · subst e
            show Calls _ _ _ _ (RDid w K G (s.heardK _))
            unfold LK.heardK
            rw [if_neg hm,if_pos rfl]
            have hlok:=parts.2.2.1 (by decide)
            exact (refTake2 (s.rv g c) K w h _ rfl hk b hbn p n last lc lt sb ls hR hs1 (fun z g0 c0 hz hol=>refPrepD s hi hl w K g c h hm 0 last p n ⟨lc,lt,sb⟩ _ _ _ (by omega) (by omega) (Ln.ok_len hlok) ⟨2,((0:Nat):Int),0,p,n,last,⟨lc,lt,sb⟩,ls⟩ rfl rfl rfl rfl z hz)).mono fun e y q=>q.did hG
          · subst e
            exact (refTake3 (s.rv g c) K w h _ rfl hk b hbn _ p n last lc lt sb ls hR hs1 hs2 (fun z g0 c0 hz hol=>refHoldD s hi hl w K g c h n last lc lt sb 0 p _ _ _ ⟨3,((0:Nat):Int),0,p,n,last,⟨lc,lt,sb⟩,ls⟩ rfl rfl rfl (by omega) z hz)).mono fun e y q=>q.did hG
          · subst e
            show Calls _ _ _ _ (RDid w K G (s.heardK _))
            unfold LK.heardK
            rw [if_neg hm,if_neg (by show ¬ (4:Int)=2;omega),if_pos rfl]
            exact (refTake4 (s.rv g c) K w h _ rfl hk b hbn p n last lc lt sb ls hR hs1 (fun z g0 c0 hz hol=>refBeatD s hi hl w K g c h hm 0 p last lc lt sb n _ _ _ (by omega) ⟨4,((0:Nat):Int),0,p,n,last,⟨lc,lt,sb⟩,ls⟩ rfl rfl z hz)).mono fun e y q=>q.did hG
          · subst e
            show Calls _ _ _ _ (RDid w K G (s.heardK _))
            unfold LK.heardK
            rw [if_neg hm,if_neg (by show ¬ (7:Int)=2;omega),if_neg (by show ¬ (7:Int)=4;omega),if_pos rfl]
            exact (refTake7 (s.rv g c) K w h _ rfl hk b hbn p n last lc lt sb ls hR hs1 (fun z g0 c0 hz hol=>refBegunD s hi hl w K g c h hm 0 p last lc lt sb n (by omega) ⟨7,((0:Nat):Int),0,p,n,last,⟨lc,lt,sb⟩,ls⟩ rfl rfl (parts.2.2.2.2.1 (by decide)) z hz g0 c0 hol)).mono fun e y q=>q.did hG
          · subst e
            exact (refTake8 (s.rv g c) K w h _ rfl hk b hbn _ p n last lc lt sb ls hR hs1 hs2 (fun z g0 c0 hz hol=>refLagD s hi hl w K g c h _ p n last lc lt sb _ _ _ ⟨8,((0:Nat):Int),0,p,n,last,⟨lc,lt,sb⟩,ls⟩ rfl rfl z hz)).mono fun e y q=>q.did hG
          · exact absurd e e9
        · have hz1:(t:Int)≠0:=by omega
          rcases hcase with e | e | e | e | e | e | e
          · exact absurd e e1
          · subst e
            rw [if_pos ⟨.inl rfl,hz1⟩]
            exact (refRej3_2 (s.rv g c) K w h rfl hk b hbn _ _ _ _ _ _ _ _ hR hs1 hs2 (Ne.symm hz1)).mono fun e y q=>q.did hK
          · subst e
            rw [if_neg (by omega)]
            exact (refTake3 (s.rv g c) K w h _ rfl hk b hbn _ p n last lc lt sb ls hR hs1 hs2 (fun z g0 c0 hz hol=>refHoldD s hi hl w K g c h n last lc lt sb t p _ _ _ ⟨3,t,0,p,n,last,⟨lc,lt,sb⟩,ls⟩ rfl rfl rfl (by omega) z hz)).mono fun e y q=>q.did hG
          · subst e
            rw [if_pos ⟨.inr (.inl rfl),hz1⟩]
            exact (refRej3_4 (s.rv g c) K w h rfl hk b hbn _ _ _ _ _ _ _ _ hR hs1 hs2 (Ne.symm hz1)).mono fun e y q=>q.did hK
          · subst e
            rw [if_pos ⟨.inr (.inr rfl),hz1⟩]
            exact (refRej3_7 (s.rv g c) K w h rfl hk b hbn _ _ _ _ _ _ _ _ hR hs1 hs2 (Ne.symm hz1)).mono fun e y q=>q.did hK
          · subst e
            rw [if_neg (by omega)]
            exact (refTake8 (s.rv g c) K w h _ rfl hk b hbn _ p n last lc lt sb ls hR hs1 hs2 (fun z g0 c0 hz hol=>refLagD s hi hl w K g c h _ p n last lc lt sb _ _ _ ⟨8,t,0,p,n,last,⟨lc,lt,sb⟩,ls⟩ rfl rfl z hz)).mono fun e y q=>q.did hG
          · exact absurd e e9
theorem docArm (s:LK) (n:Int) (w:World) (K:Nat) (G:Nat→Prop) (hK:RIs w K G s) :
    Calls Tryz.prog 60 #[.pointer (some ⟨K,0,none⟩),.int .i64 n] w fun e w'=>e=.returned (.tuple #[])∧RIs w' K G (s.armed n)∧Touch G w w':=by
  obtain ⟨arm,m,ag,hs,g,c,h1,h2,h3,h4,h5⟩:=hK
  have hv:(⟨s.kp,s.me,s.pa,s.d,arm,s.dead,s.lost,m,ag,hs,g,c,[],none,0⟩:RV).At w K:=⟨h1,h2,h3,OwnOutsR.none_ _,fun hn=>lines_ne h1 rfl h2 hn,(fun _ k e=>by cases e)⟩
  refine (refArm _ K w hv n).mono ?_
  rintro e y ⟨rfl,hc⟩
  refine ⟨rfl,⟨max n 0,m,ag,hs,g,c,hc.at_.blk,hc.at_.ls,hc.at_.lc,fun hd=>?_,h5⟩,hc.tch.mono (fun i _ e=>?_)⟩
  · obtain ⟨_,q2,q3,q4⟩:=h4 hd
    exact ⟨rfl,q2,q3,q4⟩
  · rcases e with e | e
    · exact (h5 i).2 (.inl e)
    · cases e
theorem kis_lt {w:World} {K:Nat} {F:Nat→Prop} {s:LK} (h:KIs_ w K F s) (k:Nat) (e:F k):k < w.heap.size:=by
  obtain ⟨gd,cd,gl,cl,gf,cf,h1,h2⟩:=h
  rcases (h2 k).1 e with e | e | e | e
  · subst e;exact heap_lt h1.blk
  · exact h1.dow.lt e
  · exact h1.low.lt e
  · exact h1.fow.lt e
theorem PS.turn {Iv:LK→Prop} {Y Z1 Z:World} {W:Nat} {gh:Option Nat} {n cap:Nat} {H:Nat→HG} {gp:Option Nat} {np cp:Nat} {P:Nat→PG} {lead:Bool} {i K Kr pp:Nat} {F F' G G' pN:Nat→Prop} {ps st:LK}
    (hw:WI Y W (sl gp np cp) lead gh n cap H) (hps:PS KIs_ Iv Y W gh n H gp np cp P) (hi:i < np) (hPi:P i=⟨pp,pN,ps⟩)
    (q1:Y.heap[pp]?=some (.cells #[.pointer (some ⟨K,0,none⟩),.pointer (some ⟨Kr,0,none⟩)] 121 (0,0))) (q5:∀ k,pN k↔(k=pp∨F k∨G k)) (q6:∀ k,F k→¬ G k) (q7:¬ F pp) (q8:¬ G pp)
    (k1:KIs_ Z1 K F' st) (t1:Touch F Y Z1) (n1:∀ k,F' k→F k∨Y.heap.size≤k) (k2:RIs Z Kr G' st) (t2:Touch G Z1 Z) (n2:∀ k,G' k→G k∨(Z1.heap.size≤k∧k < Z.heap.size)) (hiv:Iv st) :
    WI Z W (sl gp np cp) lead gh n cap H∧PS KIs_ Iv Z W gh n H gp np cp (fun j=>if j=i then ⟨pp,fun k=>k=pp∨F' k∨G' k,st⟩ else P j)∧Touch (fun k=>F k∨G k) Y Z:=by
  have hWl:W < Y.heap.size:=heap_lt hw.wb
  have hs1:=t1.size
  have hs2:=t2.size
  have hNi:∀ k,(k=pp∨F k∨G k)→(P i).N k:=fun k e=>by rw [hPi];exact (q5 k).2 e
  have hlt:∀ k,(k=pp∨F k∨G k)→k < Y.heap.size:=fun k e=>hps.lt i hi k (hNi k e)
  have hfr:∀ k,(k=pp∨F k∨G k)→Free W gh n H k∧gp≠some k:=fun k e=>hps.fr i hi k (hNi k e)
  have t:Touch (fun k=>F k∨G k) Y Z:=(t1.mono (fun _ _ e=>.inl e)).trans t2 (fun _ _ e=>.inr e)
  have newlt:∀ k,(k=pp∨F' k∨G' k)→k < Z.heap.size:=fun k e=>by
    rcases e with e | e | e
    · have:=hlt k (.inl e);omega
    · have:=kis_lt k1 k e;omega
    · rcases n2 k e with e | e
      · have:=hlt k (.inr (.inr e));omega
      · exact e.2
  have newor:∀ k,(k=pp∨F' k∨G' k)→(k=pp∨F k∨G k)∨Y.heap.size≤k:=fun k e=>by
    rcases e with e | e | e
    · exact .inl (.inl e)
    · rcases n1 k e with e | e
      · exact .inl (.inr (.inl e))
      · exact .inr e
    · rcases n2 k e with e | e
      · exact .inl (.inr (.inr e))
      · exact .inr (by omega)
  refine ⟨hw.touch t (fun e=>(hfr W (.inr e)).1.1 rfl) (fun k e e2=>(hfr k (.inr e2)).1.2.1 e) (fun j hj k q hf=>World.cell?_of_block (t.block k ((hw.is j hj).foot_lt hf) (fun e=>(hfr k (.inr e)).1.2.2 j hj q hf))),?_,t⟩
  refine ⟨hps.own.touch t (fun k e e2=>(hfr k (.inr e2)).2 e),fun j hj=>?_,fun j hj=>?_,fun j hj k hk=>?_,fun j hj k hk=>?_,hps.frg,fun j hj=>?_,fun j hj k hk=>?_,fun a b ha hb hab k hk hk2=>?_⟩
  · obtain ⟨g,e,c⟩:=hps.ptr j hj
    refine ⟨g,e,?_⟩
    have c2:=t.cell c (fun e2=>(hfr g (.inr e2)).2 e)
    by_cases ej:j=i
    · subst ej;simp only [if_true];rw [hPi] at c2;exact c2
    · simp only [if_neg ej];exact c2
  · by_cases ej:j=i
    · subst ej
      simp only [if_true]
      refine ⟨K,F',Kr,G',t.heapAt q1 (fun e=>by rcases e with e | e;exact q7 e;exact q8 e),?_,k2,fun k=>Iff.rfl,fun k e1 e2=>?_,fun e=>?_,fun e=>?_⟩
      · refine keepsSaid_ _ _ _ _ _ _ k1 t2 (fun k e e2=>?_)
        rcases n1 k e with e | e
        · exact q6 k e e2
        · have:=hlt k (.inr (.inr e2));omega
      · have h1:=kis_lt k1 k e1
        rcases n1 k e1 with e | e
        · rcases n2 k e2 with q | q
          · exact q6 k e q
          · omega
        · rcases n2 k e2 with q | q
          · have:=hlt k (.inr (.inr q));omega
          · omega
      · rcases n1 pp e with e | e
        · exact q7 e
        · have:=hlt pp (.inl rfl);omega
      · rcases n2 pp e with e | e
        · exact q8 e
        · have:=hlt pp (.inl rfl);omega
    · simp only [if_neg ej]
      exact (hps.pl j hj).touch keepsSaid_ t (fun k hk e=>hps.ds j i hj hi ej k hk (hNi k (.inr e)))
  · by_cases ej:j=i
    · simp only [if_pos ej] at hk;exact newlt k hk
    · simp only [if_neg ej] at hk;have:=hps.lt j hj k hk;omega
  · by_cases ej:j=i
    · simp only [if_pos ej] at hk
      rcases newor k hk with e | e
      · exact hfr k e
      · exact ⟨hw.free_new e,fun e2=>by have:=hps.own.lt e2;omega⟩
    · simp only [if_neg ej] at hk;exact hps.fr j hj k hk
  · by_cases ej:j=i
    · simp only [if_pos ej];exact hiv
    · simp only [if_neg ej];exact hps.iv j hj
  · by_cases ej:j=i
    · simp only [if_pos ej] at hk
      rcases newor k hk with e | e
      · exact hps.ge i hi k (hNi k e)
      · omega
    · simp only [if_neg ej] at hk;exact hps.ge j hj k hk
  · by_cases ea:a=i
    · by_cases eb:b=i
      · omega
      · simp only [if_pos ea] at hk;simp only [if_neg eb] at hk2
        rcases newor k hk with e | e
        · exact hps.ds i b hi hb (Ne.symm eb) k (hNi k e) hk2
        · have:=hps.lt b hb k hk2;omega
    · by_cases eb:b=i
      · simp only [if_neg ea] at hk;simp only [if_pos eb] at hk2
        rcases newor k hk2 with e | e
        · exact hps.ds a i ha hi ea k hk (hNi k e)
        · have:=hps.lt a ha k hk;omega
      · simp only [if_neg ea] at hk;simp only [if_neg eb] at hk2
        exact hps.ds a b ha hb hab k hk hk2
theorem LawAt.keptN {Iv:LK→Prop} {x Y z:World} {W:Nat} {lead:Bool} {gh gh' gp:Option Nat} {n m cap cap' np cp:Nat} {H H':Nat→HG} {P:Nat→PG} {R:Nat→Prop} (hw:WI Y W (sl gp np cp) lead gh n cap H) (hps:PS KIs_ Iv Y W gh n H gp np cp P) (h6:np≤6) (hb:Touch (fun k=>W≤k∨gh=some k∨gp=some k) x Y)
    (hk:KeptN Y W (sl gp np cp) lead gh n m H R z gh' cap' H') (hR:∀ k,R k→x.heap.size≤k) (hRN:∀ j,j < np→∀ k,(P j).N k→¬ R k) (hgx:∀ k,gp=some k→k < x.heap.size):LawAt KIs_ Iv x W lead (n+m) gh gp z:=by
  have hs:=hb.size
  refine ⟨⟨gh',cap',H',gp,np,cp,P,hk.wi,hps.move keepsSaid_ hk.tch hk.fr hRN (fun k e r=>?_),h6,fun k e=>?_,fun k e=>.inl e⟩,hb.trans hk.tch (fun k hk e=>?_)⟩
  · have:=hgx k e;have:=hR k r;omega
  · rcases hk.gg k e with e | e
    · exact .inl e
    · exact .inr (by omega)
  · rcases e with e | e | e
    · exact .inl (Nat.le_of_eq e.symm)
    · exact .inr (.inl e)
    · have:=hR k e;omega
theorem DoneRet.mono {w y:World} {K:Nat} {v:RV} {R R':RV→Prop} {e:Ending} (h:DoneRet w K v R e y) (hr:∀ u,R u→R' u):DoneRet w K v R' e y:=by
  obtain ⟨u,h1,h2⟩:=h
  exact ⟨u,hr u h1,h2⟩
theorem docTick (s:LK) (hi:IvL s) (hm:s.me=0) (w:World) (K:Nat) (G:Nat→Prop) (hK:RIs w K G s) :
    Calls Tryz.prog 66 #[.pointer (some ⟨K,0,none⟩)] w (RDid w K G s.tick):=by
  unfold LK.tick
  cases hd:s.dead with
  | true =>
    rw [if_pos rfl]
    obtain ⟨v,hv,hvd⟩:=ris_dead hK hd
    exact (refTickDead v K w hv hvd).mono fun e y q=>q.did hK
  | false =>
    rw [if_neg (by simp)]
    have hl:s.lost=[]:=by
      unfold LK.dead at hd
      cases e:s.lost with
      | nil=>rfl
      | cons a l=>rw [e] at hd;cases hd
    obtain ⟨g,c,h,hG⟩:=ris_alive hK hd
    have h5:s.kp.toNat≤5:=by have:=hi.conf.nat.1;omega
    refine (refTick (s.rv g c) K w h (hi.lead g c) hm s.kp.toNat hi.conf.nat.2.symm h5 (fun j=>(hi.hs j).1)).mono fun e y q=>?_
    refine DoneRet.did (q.mono (R':=RFor (s.rv g c) s ⟨(othersL s.me s.kp.toNat).map fun t=>⟨false,t,packS (s.reminder t)⟩,0,s⟩) ?_) hG
    rintro u ⟨g',c',rfl⟩
    exact .inl ⟨rfl,hl,g,c,g',c',rfl,fun _=>rfl⟩
end
end Go.Proofs.YtolififimldmlaaGreat
