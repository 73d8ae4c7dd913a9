import Derived.Test.YtolififimldmlaaGreatPart02
import Derived.Deep.RegionHeld3
import Derived.Test.YtolififimldmlaaGreatPart04
import Derived.Test.YtolififimldmlaaGreatPart05
set_option linter.unusedVariables false
set_option linter.unusedSimpArgs false
set_option maxRecDepth 100000
set_option maxHeartbeats 16000000
namespace Go.Proofs.YtolififimldmlaaGreat
section
open Go.RowKit
attribute [local go_sem ↓] Go.wp_at_zero Go.wp_at_succ
theorem rightLine_any (l:Ln) (w:World):Calls Tryz.prog 160 #[.agg #[.int .i64 l.c,.int .i64 l.t,.string ⟨l.s.toArray⟩]] w fun e w'=>e=.returned (.bool l.ok)∧Below w.heap.size w w':=by
  obtain ⟨c,t,s⟩:=l
  dsimp only
  go_enter Tryz.func160,Tryz.ntmps160
  go_wp2
  all_goals (go_ret;refine ⟨ret_bool ?_,(Below.refl _ _).alloc (Nat.le_refl _) _⟩;rw [Bool.eq_iff_iff];simp [Ln.ok];omega)
theorem greatest_any (a:Option Addr) (cap:Nat) (ls:List Ln) (c:Int) (w:World) (hl:LinesAt w a ls) (hn:ls.length≤100000000) :
    Calls Tryz.prog 121 #[sla a ls.length cap,.int .i64 c] w fun e w'=>e=.returned (.int .i64 (turnOf ls c))∧Below w.heap.size w w':=by
  have HL:=hid hl
  clear hl
  unfold sla
  go_enter Tryz.func121,Tryz.ntmps121
  go_wp2
  go_loopw [5,10] (fun n i wr=>∃ k:Nat,k≤ls.length∧i=.int .i64 k∧n=.int .i64 (turnOf (ls.take k) c)∧Below w.heap.size w wr) (fun _ i _=>ls.length - (intOf i).toNat)
  case atStart=>exact ⟨0,Nat.zero_le _,rfl,rfl,Below.refl _ _⟩
  case round =>
    obtain ⟨k,hk,rfl,rfl,hb⟩:=hrel
    by_cases hlt:k < ls.length
    · obtain ⟨g,o,rfl,h0,h1,h2⟩:=HL.out k hlt
      have d0:=(hb.cell (World.block_lt_of_cell? w _ h0)).trans h0
      have d1:=(hb.cell (World.block_lt_of_cell? w _ h1)).trans h1
      have d2:=(hb.cell (World.block_lt_of_cell? w _ h2)).trans h2
      clear h0 h1 h2
      have HS:Hid (turnOf (ls.take (k+1)) c=if ls[k].c=c∧turnOf (ls.take k) c < ls[k].t then ls[k].t else turnOf (ls.take k) c):=by
        rw [take_snoc ls k hlt];exact turnOf_snoc _ _ _
      generalize turnOf (ls.take k) c=T at HS ⊢
      generalize ls[k]=x at HS d0 d1 d2
      go_wp2
      all_goals
        go_roundw
        case rel=>exact ⟨k+1,by omega,by go_num,by rw [HS.out];simp_all <;> omega,hb.alloc hb.size _⟩
        case measure=>simp [intOf];omega
    · go_wp2
      go_ret
      exact ⟨ret_int (by rw [List.take_of_length_le (by omega)]),hb⟩
theorem below_cast {B:Nat} {a x x':World} (h:Below B a x) (e1:x'.heap=x.heap) (e2:x'.os=x.os) (e3:x'.tape=x.tape) (e4:x'.output=x.output):Below B a x' :=
  ⟨e2.trans h.os,e3.trans h.tape,e4.trans h.output,by rw [e1];exact h.size,fun k hk=>by rw [e1];exact h.block k hk⟩
theorem below_on {a x x' y:World} (h:Below a.heap.size a x) (g:Below x'.heap.size x' y) (e1:x'.heap=x.heap) (e2:x'.os=x.os) (e3:x'.tape=x.tape) (e4:x'.output=x.output):Below a.heap.size a y :=
  (below_cast h e1 e2 e3 e4).trans (g.mono (by rw [e1];exact h.size))
theorem cell_heap {x x':World} (e1:x'.heap=x.heap) (p:Addr):x'.cell? p=x.cell? p:=by unfold World.cell?;rw [e1]
theorem LinesAt.cast {x x':World} {a:Option Addr} {ls:List Ln} (h:LinesAt x a ls) (e1:x'.heap=x.heap):LinesAt x' a ls:=fun j hj=>by
  obtain ⟨g,o,e,h0,h1,h2⟩:=h j hj
  exact ⟨g,o,e,(cell_heap e1 _).trans h0,(cell_heap e1 _).trans h1,(cell_heap e1 _).trans h2⟩
theorem lines_on {x x' y:World} {a:Option Addr} {ls:List Ln} (h:LinesAt x a ls) (g:Below x'.heap.size x' y) (e1:x'.heap=x.heap):LinesAt y a ls:=(h.cast e1).below g
theorem greatest_at (g o n cap:Nat) (ls:List Ln) (c:Int) (w:World) (hl:LinesAt w (some ⟨g,o,none⟩) ls) (hn:ls.length≤100000000) (e:ls.length=n) :
    Calls Tryz.prog 121 #[.slice (some ⟨g,o,none⟩) n cap,.int .i64 c] w fun e w'=>e=.returned (.int .i64 (turnOf ls c))∧Below w.heap.size w w':=by
  subst e;exact greatest_any (some ⟨g,o,none⟩) cap ls c w hl hn
theorem right_lines (a:Option Addr) (cap:Nat) (ls:List Ln) (w:World) (hl:LinesAt w a ls) (hn:ls.length≤100000000) (hcap:ls.length≤cap) :
    Calls Tryz.prog 161 #[sla a ls.length cap] w fun e w'=>e=.returned (.bool (linesOk ls))∧Below w.heap.size w w':=by
  have HL:=hid hl
  clear hl
  unfold sla
  by_cases h20:20 < ls.length
  · go_enter Tryz.func161,Tryz.ntmps161
    go_wp2
    go_ret
    exact ⟨ret_bool (by unfold linesOk;simp;omega),Below.refl _ _⟩
  go_enter Tryz.func161,Tryz.ntmps161
  go_wp2
  go_loopw [10] (fun i wr=>∃ k:Nat,k≤ls.length∧i=.int .i64 k∧linesRise ls k=true∧Below w.heap.size w wr) (fun i _=>ls.length - (intOf i).toNat)
  case atStart=>exact ⟨0,Nat.zero_le _,rfl,rfl,Below.refl _ _⟩
  case round =>
    obtain ⟨k,hk,rfl,hri,hb⟩:=hrel
    have HR:=hid hri
    have HB:=hid hb
    clear hri hb
    by_cases hlt:k < ls.length
    · have HLr:=hid (HL.out.below HB.out)
      obtain ⟨g,o,rfl,h0,h1,h2⟩:=HLr.out k hlt
      have HS:=hid (linesRise_succ ls k)
      have HF:=hid (fun e=>linesRise_false ls hlt e)
      have HX:Hid (riseAt ls k=(ls[k].ok && decide (turnOf (ls.take k) ls[k].c < ls[k].t))):=by unfold riseAt;rw [getD_at ls k _ hlt];rfl
      have HT:Hid ((ls.take k).length=k):=by show (ls.take k).length=k;simp;omega
      generalize hx:ls[k]=x at HX h0 h1 h2
      go_wp2_with fail
      generalize hY:wr.alloc (.cells #[.int .i64 x.c,.int .i64 x.t,.string ⟨x.s.toArray⟩] 27)=Y
      have HY:Hid (Below w.heap.size w Y):=by rw [← hY];exact HB.out.alloc HB.out.size _
      have HLy:Hid (LinesAt Y (some ⟨g,o,none⟩) (ls.take k)):=by rw [← hY];exact (HLr.out.take k).mono ((Below.refl wr.heap.size wr).alloc (Nat.le_refl _) _) (Nat.le_refl _)
      have yy:∀ j,Y.cell? ⟨wr.heap.size,j,none⟩=(#[Value.int .i64 x.c,.int .i64 x.t,.string ⟨x.s.toArray⟩]:Array Value)[j]?:=fun j=>by rw [← hY];exact World.cell?_alloc_new _ _ _ _
      have y0:Y.cell? ⟨wr.heap.size,0,none⟩=some (.int .i64 x.c):=yy 0
      have y1:Y.cell? ⟨wr.heap.size,1,none⟩=some (.int .i64 x.t):=yy 1
      have y2:Y.cell? ⟨wr.heap.size,2,none⟩=some (.string ⟨x.s.toArray⟩):=yy 2
      generalize wr.heap.size=B at *
      have HRL:=hid (fun v=>rightLine_any x v)
      have hik:(0:Int)≤(k:Int):=by omega
      have hik2:(k:Int)≤(cap:Int):=by omega
      have hik3:(k:Int) < (ls.length:Int):=by omega
      clear hY yy h0 h1 h2 hx HLr HL
      generalize hok:x.ok=ok at *
      cases ok
      · refine wp_region_any (by kernel_rfl) ?_
        try (change wpAny _ _ _ _ _ _ _ (World.drew _))
        refine wpAny_ready (rs:=[0]) (by kernel_rfl) (by simp) ?_
        refine AllReady.cons rfl (fun K hK=>?_) AllReady.nil
        go_simp
        refine hK _ _ ?_
        clear hK K
        refine wpAny_ready (rs:=[1]) (by kernel_rfl) (by simp) ?_
        refine AllReady.cons rfl (fun K hK=>?_) AllReady.nil
        go_simp
        refine (HRL.out _).mono ?_
        rintro e wf ⟨rfl,hbf⟩
        have HY:=hid (below_on HY.out hbf rfl rfl rfl rfl)
        clear hbf
        go_simp
        refine hK _ _ ?_
        clear hK K
        refine tA 2 ?_
        try simp only [lA,lB,lC,Act.put,lD,lE,lF]
        refine tA 3 ?_
        try simp only [lA,lB,lC,Act.put,lD,lE,lF]
        refine sA 4 ?_
        try simp only [lA,lB,lC,Act.put,lD,lE,lF]
        refine sA 5 ?_
        try simp only [lA,lB,lC,Act.put,lD,lE,lF]
        refine sA 6 ?_
        try simp only [lA,lB,lC,Act.put,lD,lE,lF]
        refine sA 7 ?_
        try simp only [lA,lB,lC,Act.put,lD,lE,lF]
        refine sA 8 ?_
        try simp only [lA,lB,lC,Act.put,lD,lE,lF]
        refine sA 9 ?_
        try simp only [lA,lB,lC,Act.put,lD,lE,lF]
        refine sA 10 ?_
        try simp only [lA,lB,lC,Act.put,lD,lE,lF]
        refine sA 11 ?_
        try simp only [lA,lB,lC,Act.put,lD,lE,lF]
        refine sA 12 ?_
        try simp only [lA,lB,lC,Act.put,lD,lE,lF]
        refine tA 13 ?_
        try simp only [lA,lB,lC,Act.put,lD,lE,lF]
        refine wpAny_done (by kernel_rfl) ?_ _
        go_wp2
        go_ret
        exact ⟨ret_bool (HF.out (by rw [HX.out];rfl)).symm,HY.out⟩
      · go_region_held3 (fun x'=>x'.cell? ⟨B,0,none⟩=some (.int .i64 x.c)∧x'.cell? ⟨B,1,none⟩=some (.int .i64 x.t)∧x'.cell? ⟨B,2,none⟩=some (.string ⟨x.s.toArray⟩))
          (first | go_keep | (go_split_ands;refine ⟨?_,?_,?_⟩ <;> (refine (hbf.cell (World.block_lt_of_cell? _ _ (by assumption))).trans ?_;assumption)))
          (first | (go_at_call 160;refine (HRL.out _).mono ?_;rintro e wf ⟨rfl,hbf⟩;have HY:=hid (below_on HY.out hbf rfl rfl rfl rfl);have HLy:=hid (lines_on HLy.out hbf rfl)) | (go_at_call 121;refine (greatest_at g o k cap (ls.take k) x.c _ (HLy.out.cast rfl) (by have:=HT.out;omega) HT.out).mono ?_;rintro e wf ⟨rfl,hbf⟩;have HY:=hid (below_on HY.out hbf rfl rfl rfl rfl)))
        generalize turnOf (ls.take k) x.c=T at HX ⊢
        by_cases hT:T < x.t
        · go_wp2
          go_roundw
          case rel =>
            exact ⟨k+1,by omega,by go_num,by rw [HS.out,HR.out,HX.out];simp [hT],HY.out⟩
          case measure=>simp [intOf];omega
        · have hT':x.t≤T:=by omega
          go_wp2
          go_ret
          exact ⟨ret_bool (HF.out (by rw [HX.out];simp;omega)).symm,HY.out⟩
    · go_wp2
      go_ret
      have e:k=ls.length:=by omega
      subst e
      refine ⟨ret_bool ?_,HB.out⟩
      unfold linesOk
      rw [HR.out,Bool.eq_iff_iff];simp;omega
def BytesIn (w:World) (a:Option Addr) (l:List UInt8):Prop :=
  ∀ j (h:j < l.length),∃ g o,a=some ⟨g,o,none⟩∧w.cell? ⟨g,o+j,none⟩=some (.int .u8 l[j].toNat)
theorem wrap16 (n:Int):IntKind.u16.wrap n=n % 65536:=by
  have:IntKind.u16.wrap n=n.emod 65536:=by simp [IntKind.wrap,IntKind.bits,IntKind.signed];rfl
  exact this
theorem sum_any (a:Option Addr) (cap:Nat) (l:List UInt8) (w:World) (hl:BytesIn w a l) (hn:l.length≤100000000) :
    Calls Tryz.prog 117 #[sla a l.length cap] w fun e w'=>e=.returned (.int .u16 (chk l:Int))∧w'=w:=by
  have HL:=hid hl
  clear hl
  unfold sla
  go_enter Tryz.func117,Tryz.ntmps117
  go_wp2
  go_loop [3,8] (fun n i=>∃ (k c:Nat),k≤l.length∧i=.int .i64 k∧n=.int .u16 c∧c < 65536∧Hid (c=chk (l.take k))) (fun _ i=>l.length - (intOf i).toNat)
  case atStart=>exact ⟨0,7,Nat.zero_le _,rfl,rfl,by omega,rfl⟩
  case round =>
    obtain ⟨k,c,hk,rfl,rfl,hc,hv⟩:=hrel
    by_cases hlt:k < l.length
    · obtain ⟨g,o,rfl,h0⟩:=HL.out k hlt
      have hb:(l[k].toNat:Int) < 256:=by have:=l[k].toNat_lt;omega
      have hb0:(0:Int)≤(l[k].toNat:Int):=by omega
      have HC:Hid (((c:Int) * 31+(l[k].toNat:Int)) % 65536=(chk (l.take (k+1)):Int)):=by
        show _=_;rw [hv.out];exact chkInt l k hlt
      have HL2:Hid (chk (l.take (k+1)) < 65536):=chk_lt _
      go_wp2
      go_round
      case rel=>exact ⟨k+1,chk (l.take (k+1)),by omega,by go_num,by rw [wrap16,wrap16,← HC.out];congr 1;omega,HL2.out,rfl⟩
      case measure=>simp [intOf];omega
    · go_wp2
      go_ret
      have e:k=l.length:=by omega
      subst e
      have hv:=hv.out
      rw [List.take_length] at hv
      exact ⟨ret_int (by rw [hv]),rfl⟩
structure Grew (w w':World) (b:Option Nat) (g c:Nat) (l:List UInt8):Prop where
  at_:BytesAt w' (some g) l
  own:OwnRow w' 5 1 (some g) l.length c
  touch:Touch (fun k=>b=some k) w w'
  lies:b=some g∨w.heap.size≤g
theorem Grew.trans {w x y:World} {b:Option Nat} {g c g' c':Nat} {l l':List UInt8} (h:Grew w x b g c l) (k:Grew x y (some g) g' c' l'):Grew w y b g' c' l' :=
  ⟨k.at_,k.own,h.touch.trans k.touch (fun i hi e=>by
    cases e
    rcases h.lies with e | e
    · exact e
    · omega),by
    rcases k.lies with e | e
    · cases e;exact h.lies
    · exact .inr (Nat.le_trans h.touch.size e)⟩
theorem BytesAt.touch {T:Nat→Prop} {w w':World} {g:Option Nat} {l:List UInt8} (h:BytesAt w g l) (ht:Touch T w w') (hn:∀ k,g=some k→¬ T k):BytesAt w' g l:=fun j hj=>by
  obtain ⟨k,e,hc⟩:=h j hj
  exact ⟨k,e,ht.cell hc (hn k e)⟩
theorem BytesAt.in_ {w:World} {g:Nat} {l:List UInt8} (h:BytesAt w (some g) l):BytesIn w (some ⟨g,0,none⟩) l:=fun j hj=>by
  obtain ⟨k,e,hc⟩:=h j hj
  cases e
  exact ⟨g,0,rfl,by rw [Nat.zero_add];exact hc⟩
def u8cells (l:List UInt8):List Value:=l.map fun b=>.int .u8 b.toNat
theorem u8cells_len (l:List UInt8):(u8cells l).length=l.length:=by simp [u8cells]
theorem u8cells_one (l:List UInt8):∀ u ∈ u8cells l,u.oneCell'=true:=by
  intro u hu
  obtain ⟨b,_,rfl⟩:=List.mem_map.1 hu
  rfl
theorem u8cells_at (l:List UInt8) (j:Nat) (h:j < l.length):(u8cells l)[j]?=some (.int .u8 l[j].toNat):=by simp [u8cells,h]
theorem Grew.app {w x y:World} {b:Option Nat} {g c n m g' c':Nat} {l l2:List UInt8} {news:List Value} (h:Grew w x b g c l) (P:AppPost x y 5 1 (some g) n m news g' c') (hn:l.length=n) (hm:l2.length=m) (hnew:news=u8cells l2) :
    Grew w y b g' c' (l++l2):=by
  subst hnew
  subst hn
  subst hm
  refine h.trans ⟨fun j hj=>?_,by rw [List.length_append];exact P.own,P.touch,P.lies⟩
  refine ⟨g',rfl,?_⟩
  rcases Nat.lt_or_ge j l.length with hlt | hge
  · obtain ⟨k,e,hc⟩:=h.at_ j hlt
    cases e
    rw [List.getElem_append_left hlt,P.old j (by omega) g rfl];exact hc
  · rw [List.length_append] at hj
    have:=P.new (j - l.length) (by omega)
    rw [show l.length * 1+(j - l.length)=j from by omega] at this
    rw [this,u8cells_at _ _ (by omega),List.getElem_append_right hge]
theorem Grew.refl {w:World} {g c:Nat} {l:List UInt8} (h:BytesAt w (some g) l) (ho:OwnRow w 5 1 (some g) l.length c):Grew w w (some g) g c l :=
  ⟨h,ho,Touch.refl _ _,.inl rfl⟩
theorem Grew.below {w x y:World} {b:Option Nat} {g c:Nat} {l:List UInt8} (h:Grew w x b g c l) (hb:Below x.heap.size x y):Grew w y b g c l :=
  ⟨h.at_.touch (T:=fun _=>False) (Touch.of_belowAll hb _) (fun _ _ e=>e),h.own.touch (T:=fun _=>False) (Touch.of_belowAll hb _) (fun _ _ e=>e),h.touch.trans (T':=fun _=>False) (Touch.of_belowAll hb _) (fun _ _ e=>e.elim),h.lies⟩
theorem Grew.alloc {w x:World} {b:Option Nat} {g c:Nat} {l:List UInt8} (h:Grew w x b g c l) (o:Obj):Grew w (x.alloc o) b g c l:=h.below ((Below.refl _ _).alloc (Nat.le_refl _) _)
theorem byteCells_u8 (l:List UInt8):byteCells ⟨l.toArray⟩=u8cells l:=by simp [byteCells,u8cells]
theorem byteOf_cell (n:Int):(((byteOf n).toNat:Nat):Int)=n % 256:=by
  unfold byteOf
  have:(n % 256).toNat < 256:=by omega
  rw [UInt8.toNat_ofNat',Nat.mod_eq_of_lt (by omega)];omega
theorem Grew.own' {w x:World} {b:Option Nat} {g c n:Nat} {l:List UInt8} (h:Grew w x b g c l) (hn:l.length=n):OwnRow x 5 1 (some g) n c:=by subst hn;exact h.own
theorem appendLine_any (g c:Nat) (l:List UInt8) (x:Ln) (w:World) (hat:BytesAt w (some g) l) (hown:OwnRow w 5 1 (some g) l.length c) (hn:l.length≤100000000) (hx:x.s.length≤100000000) :
    Calls Tryz.prog 70 #[.slice (some ⟨g,0,none⟩) l.length c,.agg #[.int .i64 x.c,.int .i64 x.t,.string ⟨x.s.toArray⟩]] w fun e w' =>
      ∃ g' c',e=.returned (.slice (some ⟨g',0,none⟩) (l++lineBytes x).length c')∧Grew w w' (some g) g' c' (l++lineBytes x):=by
  obtain ⟨xc,xt,xs⟩:=x
  dsimp only at *
  obtain ⟨ib,hib,hib0,hib1,hib2⟩:=info_parts Tryz.info5
  have HG:=hid (((Grew.refl hat hown).alloc (.cells #[.int .i64 xc,.int .i64 xt,.string ⟨xs.toArray⟩] 27)).alloc (.cells #[.int .u8 (xc % 256),.int .u8 (xt % 256),.int .u8 ((xs.length:Int) % 256)] 5))
  have hsz:w.heap.size≠g:=by
    rcases hown with ⟨h,_⟩ | ⟨g0,cur,h,hg,_⟩
    · cases h
    · cases h;have:=heap_lt hg;omega
  clear hat hown
  go_enter Tryz.func70,Tryz.ntmps70
  go_wp2_with (at_builtin;refine wpList_appS _ rfl (.tmp 5) (.tmp 16) 31 31 rfl 5 ib (.int .u8 0) 1 1 Tryz.underlying31 hib hib0 hib1 hib2 rfl g l.length c (by rfl) HG.out.own _ rfl 3 [.int .u8 (xc % 256),.int .u8 (xt % 256),.int .u8 ((xs.length:Int) % 256)] (Src.ofSlice _ Tryz.underlying31 ⟨w.heap.size+1,0,none⟩ 3 3 _ rfl ?c1 ?c2) (by omega) (by omega) ?_)
  case c1 =>
    have:=World.news_of_block (heap_alloc_new (w.alloc (.cells #[.int .i64 xc,.int .i64 xt,.string ⟨xs.toArray⟩] 27)) (.cells #[.int .u8 (xc % 256),.int .u8 (xt % 256),.int .u8 ((xs.length:Int) % 256)] 5))
    rw [World.size_alloc] at this
    exact this
  case c2=>intro u hu;simp at hu;rcases hu with rfl | rfl | rfl <;> rfl
  intro g1 c1 w1 P1
  have HG1:=hid (HG.out.app (l2:=[byteOf xc,byteOf xt,byteOf xs.length]) P1 rfl rfl (by simp [u8cells,byteOf_cell]))
  have y2:w1.cell? ⟨w.heap.size,2,none⟩=some (.string ⟨xs.toArray⟩):=by
    rw [P1.keep _ _ (by simp;omega) (fun e=>hsz (by have:=Option.some.inj e.1;omega))]
    rw [World.cell?_alloc_past _ _ _ (by simp)]
    exact World.cell?_alloc_new _ _ _ _
  clear P1
  go_wp2_with (at_builtin;refine wpList_appS _ rfl (.tmp 18) (.tmp 20) 31 9 rfl 5 ib (.int .u8 0) 1 1 Tryz.underlying31 hib hib0 hib1 hib2 rfl g1 (l.length+3) c1 (by rfl) (HG1.out.own' (by simp)) _ rfl xs.length (byteCells ⟨xs.toArray⟩) (Src.ofString _ Tryz.underlying9 ⟨xs.toArray⟩) (by omega) (by omega) ?_)
  intro g2 c2 w2 P2
  have HG2:=hid (HG1.out.app (l2:=xs) P2 (by simp) rfl (byteCells_u8 xs))
  clear P2
  go_wp2
  go_ret
  refine ⟨g2,c2,?_,?_⟩
  · simp [lineBytes];omega
  · have:=HG2.out
    rw [List.append_assoc] at this
    exact this
theorem LinesAt.touch {T:Nat→Prop} {w w':World} {a:Option Addr} {ls:List Ln} (h:LinesAt w a ls) (ht:Touch T w w') (hn:∀ p,a=some p→¬ T p.block):LinesAt w' a ls:=fun j hj=>by
  obtain ⟨g,o,e,h0,h1,h2⟩:=h j hj
  have:=hn _ e
  exact ⟨g,o,e,ht.cell h0 this,ht.cell h1 this,ht.cell h2 this⟩
theorem appendLine_at (g n c:Nat) (l:List UInt8) (x:Ln) (w w0:World) (b:Option Nat) (h:Grew w0 w b g c l) (e:l.length=n) (hn:l.length≤100000000) (hx:x.s.length≤100000000) :
    Calls Tryz.prog 70 #[.slice (some ⟨g,0,none⟩) n c,.agg #[.int .i64 x.c,.int .i64 x.t,.string ⟨x.s.toArray⟩]] w fun e w' =>
      ∃ g' c',e=.returned (.slice (some ⟨g',0,none⟩) (l++lineBytes x).length c')∧Grew w0 w' b g' c' (l++lineBytes x):=by
  subst e
  refine (appendLine_any g c l x w h.at_ h.own hn hx).mono ?_
  rintro e w' ⟨g',c',e1,h2⟩
  exact ⟨g',c',e1,h.trans h2⟩
theorem append_any (g c:Nat) (l:List UInt8) (a:Option Addr) (cap:Nat) (ls:List Ln) (w:World) (hat:BytesAt w (some g) l) (hown:OwnRow w 5 1 (some g) l.length c) (hl:LinesAt w a ls) (ha:0 < ls.length→∀ p,a=some p→p.block≠g) (hn:l.length≤100000) (hm:ls.length≤100000) (hs:∀ x ∈ ls,x.s.length≤8) :
    Calls Tryz.prog 71 #[.slice (some ⟨g,0,none⟩) l.length c,sla a ls.length cap] w fun e w' =>
      ∃ g' c',e=.returned (.slice (some ⟨g',0,none⟩) (l++linesBytes ls).length c')∧Grew w w' (some g) g' c' (l++linesBytes ls):=by
  obtain ⟨ib,hib,hib0,hib1,hib2⟩:=info_parts Tryz.info5
  have HL:=hid hl
  have HA:=hid ha
  have HS:=hid hs
  have HG:=hid ((Grew.refl hat hown).alloc (.cells #[.int .u8 ((ls.length:Int) % 256)] 5))
  clear hat hown hl ha hs
  unfold sla
  go_enter Tryz.func71,Tryz.ntmps71
  go_wp2_with (at_builtin;refine wpList_appS _ rfl (.tmp 7) (.tmp 11) 31 31 rfl 5 ib (.int .u8 0) 1 1 Tryz.underlying31 hib hib0 hib1 hib2 rfl g l.length c (by rfl) HG.out.own _ rfl 1 [.int .u8 ((ls.length:Int) % 256)] (Src.ofSlice _ Tryz.underlying31 ⟨w.heap.size,0,none⟩ 1 1 _ rfl ?c1 ?c2) (by omega) (by omega) ?_)
  case c1=>exact World.news_of_block (heap_alloc_new w (.cells #[.int .u8 ((ls.length:Int) % 256)] 5))
  case c2=>intro u hu;simp at hu;subst hu;rfl
  intro g1 c1 w1 P1
  have HG1:=hid (HG.out.app (l2:=[byteOf ls.length]) P1 rfl rfl (by simp [u8cells,byteOf_cell]))
  clear P1
  go_wp2
  go_loopw [0,15] (fun v i wr=>∃ (k gk ck n:Nat) (r:List UInt8),k≤ls.length∧i=.int .i64 k∧v=.slice (some ⟨gk,0,none⟩) n ck∧r.length=n∧n≤100001+11 * k∧Hid (r=l++byteOf ls.length :: manyBytes (ls.take k)∧Grew w wr (some g) gk ck r)) (fun _ i _=>ls.length - (intOf i).toNat)
  case atStart=>exact ⟨0,g1,c1,l.length+1,l++[byteOf ls.length],Nat.zero_le _,rfl,rfl,by simp,by omega,rfl,HG1.out⟩
  case round =>
    obtain ⟨k,gk,ck,n,r,hk,rfl,rfl,hrn,hb,HI⟩:=hrel
    have HRN:=hid hrn
    clear hrn
    by_cases hlt:k < ls.length
    · have HLr:Hid (LinesAt wr a ls):=HL.out.touch HI.out.2.touch (fun p e e2=>HA.out (by omega) p e (by have:=Option.some.inj e2;omega))
      obtain ⟨gl,o,rfl,h0,h1,h2⟩:=HLr.out k hlt
      have hx8:=HS.out ls[k] (List.getElem_mem hlt)
      have HT:Hid (r++lineBytes ls[k]=l++byteOf ls.length :: manyBytes (ls.take (k+1))):=by
        show _=_
        rw [take_snoc ls k hlt,manyBytes_snoc,HI.out.1];simp
      have hlb:=lineBytes_len ls[k]
      generalize hx:ls[k]=x at hx8 HT h0 h1 h2 hlb
      clear hx
      have HX8:=hid hx8
      have HLB:=hid hlb
      clear hx8 hlb
      go_wp2_with fail
      refine (appendLine_at gk n ck r x _ w (some g) (HI.out.2.alloc _) HRN.out (by have:=HRN.out;omega) (by have:=HX8.out;omega)).mono ?_
      rintro e w2 ⟨g2,c2,rfl,hg2⟩
      have HG2:=hid hg2
      clear hg2
      have HLN:Hid ((r++lineBytes x).length=n+(x.s.length+3)):=by show _=_;rw [List.length_append,HRN.out,HLB.out]
      go_wp2
      go_roundw
      case rel=>exact ⟨k+1,g2,c2,(r++lineBytes x).length,r++lineBytes x,by omega,by go_num,by rw [List.length_append],rfl,by have:=HLN.out;have:=HX8.out;omega,HT.out,HG2.out⟩
      case measure=>simp [intOf];omega
    · go_wp2
      go_ret
      have e:k=ls.length:=by omega
      subst e
      obtain ⟨e1,e2⟩:=HI.out
      rw [List.take_length] at e1
      refine ⟨gk,ck,?_,?_⟩
      · rw [← HRN.out,e1];rfl
      · rw [e1] at e2;exact e2
theorem checkAppend_any (g c:Nat) (l:List UInt8) (w:World) (hat:BytesAt w (some g) l) (hown:OwnRow w 5 1 (some g) l.length c) (hn:l.length≤100000) :
    Calls Tryz.prog 72 #[.slice (some ⟨g,0,none⟩) l.length c] w fun e w' =>
      ∃ g' c',e=.returned (.slice (some ⟨g',0,none⟩) (withChk l).length c')∧Grew w w' (some g) g' c' (withChk l):=by
  obtain ⟨ib,hib,hib0,hib1,hib2⟩:=info_parts Tryz.info5
  have HI:=hid hat.in_
  have HC:=chk_lt l
  have HG:=hid ((Grew.refl hat hown).alloc (.cells #[.int .u8 ((chk l:Int) % 256),.int .u8 ((chk l:Int) / 256)] 5))
  clear hat hown
  go_enter Tryz.func72,Tryz.ntmps72
  go_wp2_with fail
  refine (sum_any _ c l _ HI.out (by omega)).mono ?_
  rintro e w1 ⟨rfl,rfl⟩
  go_wp2_with (at_builtin;refine wpList_appS _ rfl (.tmp 6) (.tmp 12) 31 31 rfl 5 ib (.int .u8 0) 1 1 Tryz.underlying31 hib hib0 hib1 hib2 rfl g l.length c (by rfl) HG.out.own _ rfl 2 [.int .u8 ((chk l:Int) % 256),.int .u8 ((chk l:Int) / 256)] (Src.ofSlice _ Tryz.underlying31 ⟨w1.heap.size,0,none⟩ 2 2 _ rfl ?c1 ?c2) (by omega) (by omega) ?_)
  case c1=>exact World.news_of_block (heap_alloc_new w1 (.cells #[.int .u8 ((chk l:Int) % 256),.int .u8 ((chk l:Int) / 256)] 5))
  case c2=>intro u hu;simp at hu;rcases hu with rfl | rfl <;> rfl
  intro g1 c1 w2 P1
  have HG1:=hid (HG.out.app (l2:=[UInt8.ofNat (chk l % 256),UInt8.ofNat (chk l / 256)]) P1 rfl rfl (by
    simp only [u8cells,List.map_cons,List.map_nil,UInt8.toNat_ofNat',Nat.mod_mod,List.cons.injEq,Value.int.injEq,true_and,and_true]
    omega))
  clear P1
  go_wp2
  go_ret
  exact ⟨g1,c1,by simp [withChk],HG1.out⟩
end
end Go.Proofs.YtolififimldmlaaGreat
