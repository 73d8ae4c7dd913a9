import Derived.Test.YtolififimldmlaaGreatPart26
set_option linter.unusedVariables false
set_option linter.unusedSimpArgs false
set_option maxRecDepth 100000
set_option maxHeartbeats 16000000
namespace Go.Proofs.YtolififimldmlaaGreat
section
open Go.RowKit
attribute [local go_sem ↓] Go.wp_at_zero Go.wp_at_succ
structure OutG where
  cl:Bool
  tk:Int
  b:List UInt8
structure OwnOuts (w w':World) (g:Option Nat) (c:Nat) (os:List OutG) (gs:Nat→Option Nat) (cs:Nat→Nat):Prop where
  own:OwnRow w' 71 3 g os.length c
  new:∀ k,g=some k→w.heap.size≤k
  at_:∀ j (h:j < os.length),∃ k,g=some k∧w'.cell? ⟨k,j * 3,none⟩=some (.bool os[j].cl)∧w'.cell? ⟨k,j * 3+1,none⟩=some (.int .i64 os[j].tk)∧w'.cell? ⟨k,j * 3+2,none⟩=some (sl (gs j) os[j].b.length (cs j))
  bs:∀ j (h:j < os.length),OwnBytes w w' (gs j) (cs j) os[j].b
  ne:∀ j,j < os.length→∀ k,gs j=some k→g≠some k
  ds:∀ i j,i < j→j < os.length→∀ k,gs i=some k→gs j≠some k
theorem OwnOuts.none_ (w w':World):OwnOuts w w' none 0 [] (fun _=>none) (fun _=>0) :=
  ⟨.inl ⟨rfl,rfl,rfl⟩,(fun k e=>by cases e),fun j hj=>absurd hj (by simp),fun j hj=>absurd hj (by simp),fun j hj=>absurd hj (by simp),fun i j _ hj=>absurd hj (by simp)⟩
theorem OwnOuts.below {w x y:World} {g:Option Nat} {c:Nat} {os:List OutG} {gs:Nat→Option Nat} {cs:Nat→Nat} (h:OwnOuts w x g c os gs cs) (hb:Below x.heap.size x y):OwnOuts w y g c os gs cs :=
  ⟨h.own.touch (T:=fun _=>False) (Touch.of_belowAll hb _) (fun _ _ e=>e),h.new,fun j hj=>by
    obtain ⟨k,e,h0,h1,h2⟩:=h.at_ j hj
    exact ⟨k,e,(hb.cell (World.block_lt_of_cell? _ _ h0)).trans h0,(hb.cell (World.block_lt_of_cell? _ _ h1)).trans h1,(hb.cell (World.block_lt_of_cell? _ _ h2)).trans h2⟩,fun j hj=>(h.bs j hj).below hb,h.ne,h.ds⟩
theorem OwnOuts.base {u w x:World} {g:Option Nat} {c:Nat} {os:List OutG} {gs:Nat→Option Nat} {cs:Nat→Nat} (h:OwnOuts w x g c os gs cs) (hb:u.heap.size≤w.heap.size):OwnOuts u x g c os gs cs :=
  ⟨h.own,fun k e=>Nat.le_trans hb (h.new k e),h.at_,fun j hj=>(h.bs j hj).base hb,h.ne,h.ds⟩
theorem OwnBytes.touch {T:Nat→Prop} {w x y:World} {g:Option Nat} {c:Nat} {l:List UInt8} (h:OwnBytes w x g c l) (ht:Touch T x y) (hn:∀ k,g=some k→¬ T k):OwnBytes w y g c l :=
  ⟨h.at_.touch ht hn,h.own.touch ht hn,h.new⟩
theorem OwnOuts.app {w X X1 w3:World} {g gb:Option Nat} {c cb k g' c':Nat} {os:List OutG} {gs:Nat→Option Nat} {cs:Nat→Nat} {x:OutG} {o:Obj} (h:OwnOuts w X g c os gs cs) (hb:Below w.heap.size w X) (hk:os.length=k) (hb1:Below X.heap.size X X1) (hx:OwnBytes X X1 gb cb x.b)
    (P:AppPost (X1.alloc o) w3 71 3 g k 1 [.bool x.cl,.int .i64 x.tk,sl gb x.b.length cb] g' c') :
    OwnOuts w w3 (some g') c' (os++[x]) (fun j=>if j=os.length then gb else gs j) (fun j=>if j=os.length then cb else cs j)∧Below w.heap.size w w3:=by
  subst hk
  have s0:=hb.size
  have s1:=hb1.size
  have h1:=h.below hb1
  have bA:Below w.heap.size w (X1.alloc o):=(hb.trans (hb1.mono s0)).alloc (by omega) _
  have hA:=h1.below ((Below.refl _ X1).alloc (Nat.le_refl _) o)
  have hxA:=hx.below ((Below.refl _ X1).alloc (Nat.le_refl _) o)
  have gT:∀ k,gb=some k→¬ (g=some k):=fun k e e2=>by have:=hx.new k e;have:=h.own.lt e2;omega
  have gG:∀ k,gb=some k→g'≠k:=fun k e e2=>by
    subst e2
    rcases P.lies with q | q
    · exact gT _ e q
    · have:=hxA.own.lt e;omega
  have oG:∀ j,j < os.length→∀ k,gs j=some k→g'≠k:=fun j hj k e e2=>by
    subst e2
    rcases P.lies with q | q
    · exact h.ne j hj _ e q
    · have:=(hA.bs j hj).own.lt e;omega
  refine ⟨⟨by rw [List.length_append];exact P.own,fun j e=>?_,fun j hj=>⟨g',rfl,?_⟩,fun j hj=>?_,fun j hj k e=>?_,fun i j hij hj k e=>?_⟩,bA.trans (P.touch.below (by rw [World.size_alloc];omega) (fun j _ e=>h.new j e))⟩
  · have e:=Option.some.inj e
    subst e
    rcases P.lies with q | q
    · exact h.new _ q
    · rw [World.size_alloc] at q;omega
  · rw [List.length_append,List.length_singleton] at hj
    by_cases ej:j=os.length
    · subst ej
      have n0:=P.new 0 (by omega)
      have n1:=P.new 1 (by omega)
      have n2:=P.new 2 (by omega)
      simp only [if_true,List.getElem_append_right (Nat.le_refl _),Nat.sub_self,List.getElem_singleton]
      exact ⟨by simpa using n0,by simpa using n1,by simpa using n2⟩
    · have hlt:j < os.length:=by omega
      obtain ⟨k,e,h0,h1,h2⟩:=hA.at_ j hlt
      simp only [if_neg ej]
      rw [List.getElem_append_left hlt,P.old (j * 3) (by omega) k e,P.old (j * 3+1) (by omega) k e,P.old (j * 3+2) (by omega) k e]
      exact ⟨h0,h1,h2⟩
  · rw [List.length_append,List.length_singleton] at hj
    by_cases ej:j=os.length
    · subst ej
      simp only [if_true,List.getElem_append_right (Nat.le_refl _),Nat.sub_self,List.getElem_singleton]
      exact (hxA.touch P.touch (fun k e=>gT k e)).base (by omega)
    · have hlt:j < os.length:=by omega
      simp only [if_neg ej]
      rw [List.getElem_append_left hlt]
      exact (hA.bs j hlt).touch P.touch (fun k e=>h.ne j hlt k e)
  · rw [List.length_append,List.length_singleton] at hj
    by_cases ej:j=os.length
    · simp only [if_pos ej] at e;exact fun e2=>gG k e (Option.some.inj e2)
    · simp only [if_neg ej] at e;exact fun e2=>oG j (by omega) k e (Option.some.inj e2)
  · rw [List.length_append,List.length_singleton] at hj
    have hi:i≠os.length:=by omega
    simp only [if_neg hi] at e
    by_cases ej:j=os.length
    · simp only [if_pos ej]
      exact fun e2=>by have:=hx.new k e2;have:=(h.bs i (by omega)).own.lt e;omega
    · simp only [if_neg ej];exact h.ds i j hij (by omega) k e
theorem OwnOuts.app1 {w X X1 w3:World} {g gb:Option Nat} {c cb k g' c':Nat} {os:List OutG} {gs:Nat→Option Nat} {cs:Nat→Nat} {x:OutG} {o:Obj} (h:OwnOuts w X g c os gs cs) (hb:w.heap.size≤X.heap.size) (hk:os.length=k) (hb1:Below X.heap.size X X1) (hx:OwnBytes X X1 gb cb x.b)
    (P:AppPost (X1.alloc o) w3 71 3 g k 1 [.bool x.cl,.int .i64 x.tk,sl gb x.b.length cb] g' c') :
    OwnOuts w w3 (some g') c' (os++[x]) (fun j=>if j=os.length then gb else gs j) (fun j=>if j=os.length then cb else cs j):=by
  subst hk
  have s0:=hb
  have s1:=hb1.size
  have h1:=h.below hb1
  have hA:=h1.below ((Below.refl _ X1).alloc (Nat.le_refl _) o)
  have hxA:=hx.below ((Below.refl _ X1).alloc (Nat.le_refl _) o)
  have gT:∀ k,gb=some k→¬ (g=some k):=fun k e e2=>by have:=hx.new k e;have:=h.own.lt e2;omega
  have gG:∀ k,gb=some k→g'≠k:=fun k e e2=>by
    subst e2
    rcases P.lies with q | q
    · exact gT _ e q
    · have:=hxA.own.lt e;omega
  have oG:∀ j,j < os.length→∀ k,gs j=some k→g'≠k:=fun j hj k e e2=>by
    subst e2
    rcases P.lies with q | q
    · exact h.ne j hj _ e q
    · have:=(hA.bs j hj).own.lt e;omega
  refine ⟨by rw [List.length_append];exact P.own,fun j e=>?_,fun j hj=>⟨g',rfl,?_⟩,fun j hj=>?_,fun j hj k e=>?_,fun i j hij hj k e=>?_⟩
  · have e:=Option.some.inj e
    subst e
    rcases P.lies with q | q
    · exact h.new _ q
    · rw [World.size_alloc] at q;omega
  · rw [List.length_append,List.length_singleton] at hj
    by_cases ej:j=os.length
    · subst ej
      have n0:=P.new 0 (by omega)
      have n1:=P.new 1 (by omega)
      have n2:=P.new 2 (by omega)
      simp only [if_true,List.getElem_append_right (Nat.le_refl _),Nat.sub_self,List.getElem_singleton]
      exact ⟨by simpa using n0,by simpa using n1,by simpa using n2⟩
    · have hlt:j < os.length:=by omega
      obtain ⟨k,e,h0,h1,h2⟩:=hA.at_ j hlt
      simp only [if_neg ej]
      rw [List.getElem_append_left hlt,P.old (j * 3) (by omega) k e,P.old (j * 3+1) (by omega) k e,P.old (j * 3+2) (by omega) k e]
      exact ⟨h0,h1,h2⟩
  · rw [List.length_append,List.length_singleton] at hj
    by_cases ej:j=os.length
    · subst ej
      simp only [if_true,List.getElem_append_right (Nat.le_refl _),Nat.sub_self,List.getElem_singleton]
      exact (hxA.touch P.touch (fun k e=>gT k e)).base (by omega)
    · have hlt:j < os.length:=by omega
      simp only [if_neg ej]
      rw [List.getElem_append_left hlt]
      exact (hA.bs j hlt).touch P.touch (fun k e=>h.ne j hlt k e)
  · rw [List.length_append,List.length_singleton] at hj
    by_cases ej:j=os.length
    · simp only [if_pos ej] at e;exact fun e2=>gG k e (Option.some.inj e2)
    · simp only [if_neg ej] at e;exact fun e2=>oG j (by omega) k e (Option.some.inj e2)
  · rw [List.length_append,List.length_singleton] at hj
    have hi:i≠os.length:=by omega
    simp only [if_neg hi] at e
    by_cases ej:j=os.length
    · simp only [if_pos ej]
      exact fun e2=>by have:=hx.new k e2;have:=(h.bs i (by omega)).own.lt e;omega
    · simp only [if_neg ej];exact h.ds i j hij (by omega) k e
def OutsRet (w:World) (os:List OutG) (e:Ending) (w':World):Prop:=∃ g c gs cs,e=.returned (sl g os.length c)∧OwnOuts w w' g c os gs cs∧Below w.heap.size w w'
section
variable (v:PV) (B:Nat) (w:World) (h:v.At w B)
include h
theorem toOthersV (n:Nat) (hk:v.kp=n) (hn:n≤5) (x:Value) (f:Fr) (HBy:∀ z,Below w.heap.size w z→Calls Tryz.prog 176 #[x] z (BytesRet z f)) :
    Calls Tryz.prog 124 #[.pointer (some ⟨B,0,none⟩),x] w (OutsRet w ((othersL v.me n).map fun t=>⟨false,t,packS f⟩)):=by
  have OV:=hid (othersV v B w h n hk hn)
  have TK:Hid (∀ z (t:Int),Below w.heap.size w z→Calls Tryz.prog 135 #[.int .i64 t,x] z (OutRet z false t (packS f))):=fun z t hz=>toKeeper_of x f t z (fun y hy=>HBy y (hz.trans (hy.mono hz.size)))
  unfold OutRet at TK
  obtain ⟨io,hio,hio0,hio1,hio2⟩:=info_parts Tryz.info71
  have hlen:=othersL_len v.me n
  clear h hk HBy
  generalize othersL v.me n=L at *
  generalize packS f=pb at *
  have HX:Hid (∀ g c gs cs w',OwnOuts w w' g c (L.map fun t=>(⟨false,t,pb⟩:OutG)) gs cs→Below w.heap.size w w'→OutsRet w (L.map fun t=>(⟨false,t,pb⟩:OutG)) (.returned (.slice (g.map fun k=>⟨k,0,none⟩) L.length c)) w'):=fun g c gs cs w' h1 h2=>⟨g,c,gs,cs,by rw [List.length_map];rfl,h1,h2⟩
  go_enter Tryz.func124,Tryz.ntmps124
  go_wp2_with fail
  refine OV.out.mono ?_
  rintro e X0 ⟨gi,ci,rfl,hoi,hb0⟩
  have HOI:=hid hoi
  have HB0:=hid hb0
  clear hoi hb0 OV
  unfold sl
  go_wp2
  go_loopw [5,11] (fun r i wr=>∃ (k:Nat) (g:Option Nat) (c:Nat) (gs:Nat→Option Nat) (cs:Nat→Nat),k≤L.length∧i=.int .i64 k∧r=.slice (g.map fun q=>⟨q,0,none⟩) k c∧Hid (OwnOuts w wr g c ((L.take k).map fun t=>(⟨false,t,pb⟩:OutG)) gs cs)∧Hid (Below X0.heap.size X0 wr)∧Hid (∀ q,g=some q→X0.heap.size≤q)) (fun _ i _=>L.length - (intOf i).toNat)
  case atStart=>exact ⟨0,none,0,_,_,Nat.zero_le _,rfl,rfl,OwnOuts.none_ _ _,Below.refl _ _,fun q e=>by cases e⟩
  case round =>
    obtain ⟨k,g,c,gs,cs,hk,rfl,rfl,HO,HB,HG⟩:=hrel
    by_cases hlt:k < L.length
    · have b0:(0:Int)≤(k:Int):=by omega
      have b1:(k:Int) < (L.length:Int):=by omega
      obtain ⟨gg,he,hc⟩:=(HOI.out.below HB.out).at_ k hlt
      subst he
      simp only [Option.map_some]
      have HBw:=hid (HB0.out.trans (HB.out.mono HB0.out.size))
      have HTK:=hid (TK.out wr L[k] HBw.out)
      have hkl:((L.take k).map fun t=>(⟨false,t,pb⟩:OutG)).length=k:=by rw [List.length_map,List.length_take];omega
      have htk:Hid (L.take (k+1)=L.take k++[L[k]]):=by show _=_;rw [List.take_add_one,List.getElem?_eq_getElem hlt];rfl
      generalize L[k]=t at *
      go_wp2_with fail
      refine HTK.out.mono ?_
      rintro e x1 ⟨gb,cb,rfl,hob,hb1⟩
      have HB1:=hid hb1
      have HOB:=hid hob
      have HOW:Hid (OwnRow (x1.alloc (.cells #[.bool false,.int .i64 t,.slice (gb.map fun q=>⟨q,0,none⟩) pb.length cb] 71)) 71 3 g k c):=by
        have:=(HO.out.below hb1).own.alloc (.cells #[.bool false,.int .i64 t,.slice (gb.map fun q=>⟨q,0,none⟩) pb.length cb] 71)
        rw [hkl] at this;exact this
      clear hob hb1
      unfold sl
      go_wp2_with (at_builtin;refine wpList_app _ rfl (.tmp 15) (.tmp 19) 54 rfl 71 io (.agg #[.bool false,.int .i64 0,.slice none 0 0]) 3 40 Tryz.underlying54 hio hio0 hio1 hio2 rfl g k c (by rfl) HOW.out ⟨x1.heap.size,0,none⟩ 1 1 [.bool false,.int .i64 t,.slice (gb.map fun q=>⟨q,0,none⟩) pb.length cb] rfl rfl ?c1 ?c2 (by omega) (by omega) (by omega) ?_)
      case c1=>exact World.news_of_block (heap_alloc_new x1 _)
      case c2=>intro u hu;simp at hu;rcases hu with rfl | rfl | rfl <;> rfl
      intro g2 c2 w3 Q
      have HA:=hid (OwnOuts.app (x:=⟨false,t,pb⟩) HO.out HBw.out hkl HB1.out HOB.out Q)
      have HBX:Hid (Below X0.heap.size X0 w3):=(HB.out.trans ((HB1.out.alloc HB1.out.size _).mono HB.out.size)).trans (Q.touch.below (by rw [World.size_alloc];have:=HB.out.size;have:=HB1.out.size;omega) (fun j _ e=>HG.out j e))
      have HG2:Hid (∀ q,some g2=some q→X0.heap.size≤q):=fun q e=>by
        have e:=Option.some.inj e
        subst e
        rcases Q.lies with q | q
        · exact HG.out _ q
        · rw [World.size_alloc] at q;have:=HB.out.size;have:=HB1.out.size;omega
      clear Q
      go_wp2
      go_roundw
      case rel=>exact ⟨k+1,some g2,c2,_,_,by omega,by go_num,rfl,by rw [htk.out,List.map_append];exact HA.out.1,HBX,HG2⟩
      case measure=>simp [intOf];omega
    · have hkn:k=L.length:=by omega
      subst hkn
      rw [List.take_of_length_le (Nat.le_refl _)] at HO
      go_wp2
      go_ret
      exact HX.out g c gs cs _ HO.out (HB0.out.trans (HB.out.mono HB0.out.size))
end
def recBytes (inner:List UInt8):List UInt8:=withChk (byteOf inner.length :: inner)
theorem whole_go (a:Option Addr) (n c:Nat) (inner:List UInt8) (w:World) (hb:BytesIn w a inner) (hl:inner.length=n) (hn:inner.length≤1000) :
    Calls Tryz.prog 184 #[.slice a n c] w fun e w'=>∃ g cq,e=.returned (.slice (some ⟨g,0,none⟩) (recBytes inner).length cq)∧OwnBytes w w' (some g) cq (recBytes inner)∧Below w.heap.size w w':=by
  have HI:=hid hb
  clear hb
  subst hl
  unfold recBytes
  go_enter Tryz.func184,Tryz.ntmps184
  obtain ⟨Y,hY⟩:∃ Y,Y=w.alloc (.cells #[.int .u8 ((inner.length:Int) % 256)] 5):=⟨_,rfl⟩
  have HYb:Hid (Below w.heap.size w Y):=by show Below _ _ _;rw [hY];exact (Below.refl _ _).alloc (Nat.le_refl _) _
  have HOB:Hid (OwnBytes w Y (some w.heap.size) 1 [byteOf inner.length]):=by
    have hh:Y.heap[w.heap.size]?=some (.cells #[.int .u8 ((inner.length:Int) % 256)] 5 (0,0)):=by rw [hY];exact heap_alloc_new w _
    refine ⟨fun j hj=>⟨w.heap.size,rfl,?_⟩,.inr ⟨_,_,rfl,hh,rfl,Nat.le_refl _,by simp only [maxLen];omega⟩,fun k e=>by cases e;exact Nat.le_refl _⟩
    have:j=0:=by simpa using hj
    subst this
    rw [cell_of_heap hh]
    have:=byteOf_cell (inner.length:Int)
    simp only [List.getElem?_toArray,List.getElem?_cons_zero,List.getElem_cons_zero]
    rw [this]
  obtain ⟨b',c',w2,hr,ho,hb2⟩:=run_appB (l2:=inner) 31 31 (.slice a inner.length c) HOB.out HYb.out (bytes_src a inner.length c inner Y (HI.out.below HYb.out) rfl) (by simp;omega)
  obtain ⟨gb,rfl⟩:∃ gb,b'=some gb:=by obtain ⟨k,e,_⟩:=ho.at_ 0 (by simp);exact ⟨k,e⟩
  rw [List.singleton_append] at ho
  have hl2:(byteOf inner.length :: inner).length=1+inner.length:=by simp;omega
  have CA:Hid (∃ z,z=w2∧Calls Tryz.prog 72 #[.slice (some ⟨gb,0,none⟩) (1+inner.length) c'] w2 fun e w'=>∃ g' cq,e=.returned (.slice (some ⟨g',0,none⟩) (withChk (byteOf inner.length :: inner)).length cq)∧Grew w2 w' (some gb) g' cq (withChk (byteOf inner.length :: inner))):=⟨w2,rfl,by
    have:=checkAppend_any gb c' (byteOf inner.length :: inner) w2 ho.at_ ho.own (by rw [hl2];omega)
    rw [hl2] at this;exact this⟩
  have hr2:(Builtin.append_ #[31,31] 31 #[.slice (some ⟨w.heap.size,0,none⟩) 1 1,.slice a inner.length c]).run Tryz.prog Y=.ok (.slice (some ⟨gb,0,none⟩) (1+inner.length) c') w2:=hr
  have HR:=hid hr2
  have HO:=hid ho
  have HB2:=hid hb2
  have HY:=hid hY
  have HXX:Hid (∀ g cq w',Grew w2 w' (some gb) g cq (withChk (byteOf inner.length :: inner))→OwnBytes w w' (some g) cq (withChk (byteOf inner.length :: inner))∧Below w.heap.size w w'):=fun g cq w' G=>by
    refine ⟨⟨G.at_,G.own,fun k e=>?_⟩,hb2.trans (G.touch.below hb2.size (fun k _ e=>ho.new k e))⟩
    have e:=Option.some.inj e
    subst e
    rcases G.lies with e | e
    · exact ho.new _ e
    · have:=hb2.size;omega
  clear hr hr2 ho hb2 hY hl2 HOB
  go_wp2_with (at_builtin;rw [← HY.out];refine wpList_appRun rfl (.tmp 6) (.tmp 7) 31 31 rfl _ _ _ _ rfl rfl HR.out ?_)
  go_wp2_with fail
  obtain ⟨_,_,CC⟩:=CA.out
  refine CC.mono ?_
  rintro e w3 ⟨g',cq,rfl,G⟩
  have HG:=hid (HXX.out g' cq w3 G)
  clear G CC
  go_wp2
  go_ret
  exact ⟨g',cq,rfl,HG.out.1,HG.out.2⟩
theorem run_appR {w:World} {b:Option Nat} {c:Nat} {l l2:List UInt8} (ty tx:TypeId) (x:Value) (ha:BytesAt w b l) (ho:OwnRow w 5 1 b l.length c) (hs:Src Tryz.prog 1 tx x l2.length (u8cells l2) w) (hn:l.length+l2.length≤100000000) :
    ∃ b' c' w',(Builtin.append_ #[31,tx] ty #[sl b l.length c,x]).run Tryz.prog w=.ok (sl b' (l.length+l2.length) c') w'∧BytesAt w' b' (l++l2)∧OwnRow w' 5 1 b' (l++l2).length c'∧Touch (fun k=>b=some k) w w'∧∀ k,b'=some k→b=some k∨w.heap.size≤k:=by
  obtain ⟨ib,hib,hib0,hib1,hib2⟩:=info_parts Tryz.info5
  cases b with
  | none =>
    rcases ho with ⟨_,h1,h2⟩ | ⟨g,_,h1,_⟩
    · have hl:l=[]:=by cases l with
        | nil=>rfl
        | cons _ _=>simp at h1
      subst hl
      subst h2
      obtain ⟨b',c',w',hr,P⟩:=run_appN (P:=Tryz.prog) w 31 tx ty 5 ib (.int .u8 0) 1 1 Tryz.underlying31 hib hib0 hib1 hib2 rfl x l2.length (u8cells l2) hs (by omega) (by omega)
      have PB:=P.bytes rfl
      exact ⟨b',c',w',by rw [List.length_nil,Nat.zero_add];exact hr,by rw [List.nil_append];exact PB.1,by rw [List.nil_append];exact PB.2,Touch.of_belowAll P.below _,fun k e=>.inr (P.fresh k e)⟩
    · cases h1
  | some g =>
    obtain ⟨g',c',w',hr,P⟩:=run_appS (P:=Tryz.prog) w 31 tx ty 5 ib (.int .u8 0) 1 1 Tryz.underlying31 hib hib0 hib1 hib2 rfl g l.length c ho x l2.length (u8cells l2) hs (by omega) (by omega)
    have G:=(Grew.refl ha ho).app P rfl rfl rfl
    refine ⟨some g',c',w',hr,G.at_,G.own,G.touch,fun k e=>?_⟩
    have e:=Option.some.inj e
    subst e
    exact G.lies
theorem setAll_mid {B:Nat} {e:TypeId} {f:Nat × Nat} (post:List Value) (vs:List Value):∀ (w:World) (pre rest:List Value),w.heap[B]?=some (.cells (pre++rest++post).toArray e f)→rest.length=vs.length→(setAll w B pre.length vs).heap[B]?=some (.cells (pre++vs++post).toArray e f):=by
  induction vs with
  | nil =>
    intro w pre rest h hl
    have:rest=[]:=List.eq_nil_of_length_eq_zero (by simpa using hl)
    subst this
    exact h
  | cons v vs ih =>
    intro w pre rest h hl
    cases rest with
    | nil=>simp at hl
    | cons r rest =>
      have h1:=heap_setCell h pre.length v
      have h2:(pre++r :: rest++post).toArray.setIfInBounds pre.length v=((pre++[v])++rest++post).toArray:=by simp
      rw [h2] at h1
      have:=ih (w.setCell ⟨B,pre.length,none⟩ v) (pre++[v]) rest h1 (by simpa using hl)
      rw [List.length_append,List.length_singleton] at this
      unfold setAll
      rw [this,List.append_assoc];simp
structure Chg (w w':World) (B:Nat) (v v':PV):Prop where
  at_:v'.At w' B
  tch:Touch (fun k=>v.own B k) w w'
  new:∀ k,v'.own B k→v.own B k∨w.heap.size≤k
theorem Chg.same {w w':World} {B:Nat} {v:PV} (h:v.At w B) (hb:Below w.heap.size w w'):Chg w w' B v v:=⟨h.below hb,Touch.of_belowAll hb _,fun _ e=>.inl e⟩
theorem PV.At.ownlt {v:PV} {w:World} {B:Nat} (h:v.At w B) {k:Nat} (e:v.own B k):k < w.heap.size:=by
  rcases e with e | e | e | e
  · subst e;exact h.lt
  · exact h.dow.lt e
  · exact h.low.lt e
  · exact h.fow.lt e
theorem Chg.trans {w x y:World} {B:Nat} {v u t:PV} (h:Chg w x B v u) (k:Chg x y B u t):Chg w y B v t :=
  ⟨k.at_,h.tch.trans k.tch (fun i hi e=>by
    rcases h.new i e with e | e
    · exact e
    · omega),fun i e=>by
    rcases k.new i e with e | e
    · exact h.new i e
    · exact .inr (Nat.le_trans h.tch.size e)⟩
theorem Chg.below {w x y:World} {B:Nat} {v u:PV} (h:Chg w x B v u) (hb:Below x.heap.size x y):Chg w y B v u:=h.trans (Chg.same h.at_ hb)
theorem Chg.of {w x y:World} {B:Nat} {v u:PV} (hb:Below w.heap.size w x) (hv:v.At w B) (h:Chg x y B v u):Chg w y B v u:=(Chg.same hv hb).trans h
theorem writeFailV (v:PV) (B:Nat) (w:World) (h:v.At w B) (hl:v.lost=[]) (harm:v.arm=1) (a:Option Addr) (n c:Nat) (inner:List UInt8) (hb:BytesIn w a inner) (hil:inner.length=n) (hin:inner.length≤1000) :
    Calls Tryz.prog 163 #[.pointer (some ⟨B,3,none⟩),.slice a n c] w fun e w'=>∃ gf cf,e=.returned (.bool false)∧Chg w w' B v { v with m:=Mm.zero,arm:=0,lost:=recBytes inner,gl:=none,cl:=0,gf:=some gf,cf:=cf }:=by
  have FV:=hid (failedV v B w h)
  rw [hl] at FV
  have HW:Hid (∀ z,Below w.heap.size w z→Calls Tryz.prog 184 #[.slice a n c] z fun e w'=>∃ g cq,e=.returned (.slice (some ⟨g,0,none⟩) (recBytes inner).length cq)∧OwnBytes z w' (some g) cq (recBytes inner)∧Below z.heap.size z w'):=fun z hz=>whole_go a n c inner z (hb.below hz) hil hin
  have C7:Hid (w.cell? ⟨B,7,none⟩=some (.int .i64 1)):=by have:=cell_of_heap h.blk 7;rw [harm] at this;exact this
  have C3:Hid (w.cell? ⟨B,3,none⟩=some (.slice (v.gd.map fun k=>⟨k,0,none⟩) v.d.length v.cd)):=cell_of_heap h.blk 3
  have HV:=hid h
  have hB:=h.lt
  clear h hb hil hin harm hl
  go_enter Tryz.func163,Tryz.ntmps163
  go_wp2_with fail
  refine FV.out.mono ?_
  rintro e X0 ⟨rfl,hb0⟩
  have HB0:=hid hb0
  have c7:=(hb0.cell (World.block_lt_of_cell? _ _ C7.out)).trans C7.out
  have C30:=hid ((hb0.cell (World.block_lt_of_cell? _ _ C3.out)).trans C3.out)
  clear hb0 FV
  simp only [List.length_nil,Nat.lt_irrefl,decide_false]
  go_wp2
  have HSB:Hid (∀ z,Below w.heap.size w z→(Below w.heap.size w z∧z.cell? ⟨B,3,none⟩=some (.slice (v.gd.map fun k=>⟨k,0,none⟩) v.d.length v.cd))):=fun z hz=>⟨hz,(hz.cell (World.block_lt_of_cell? _ _ C3.out)).trans C3.out⟩
  refine wp_region_held_drew (S:=fun z:World=>z.cell? ⟨B,3,none⟩=some (.slice (v.gd.map fun k=>⟨k,0,none⟩) v.d.length v.cd)) (by kernel_rfl) (HSB.out _ HB0.out.drew).2 (fun hS=>?_)
  refine tH 0 hS ?_
  try simp only [lA,lB,lC,Act.put,lD,lE,lF]
  refine tH 1 hS ?_
  try simp only [lA,lB,lC,Act.put,lD,lE,lF]
  refine tH 2 hS ?_
  try simp only [lA,lB,lC,Act.put,lD,lE,lF]
  refine tH 3 hS ?_
  try simp only [lA,lB,lC,Act.put,lD,lE,lF]
  refine tH 5 hS ?_
  try simp only [lA,lB,lC,Act.put,lD,lE,lF]
  refine tH 4 hS ?_ (hy:=by (intro w hw;have s1:=hw;clear hw;go_simp;try with_reducible rfl))
  try simp only [lA,lB,lC,Act.put,lD,lE,lF]
  refine wpAnyH_ready (rs:=[6]) (by kernel_rfl) (by simp) ?_
  refine AllReadyH.cons rfl (fun K hK=>?_) AllReadyH.nil
  go_simp
  refine (HW.out _ HB0.out.drew).mono ?_
  rintro e X1 ⟨gf,cf,rfl,ho,hbf⟩
  have HB1:=hid (HB0.out.drew.trans (hbf.mono HB0.out.size))
  have HO:=hid (ho.base (u:=w) HB0.out.size)
  clear hbf ho
  refine hK.out _ _ (HSB.out _ HB1.out).2 (fun hS=>?_)
  clear hK K
  refine tH 7 hS ?_
  try simp only [lA,lB,lC,Act.put,lD,lE,lF]
  refine tH 8 hS ?_
  try simp only [lA,lB,lC,Act.put,lD,lE,lF]
  have HV1:=hid (HV.out.below HB1.out)
  have q3:=cell_of_heap HV1.out.blk 3
  have q4:=cell_of_heap HV1.out.blk 4
  have q5:=cell_of_heap HV1.out.blk 5
  have q6:=cell_of_heap HV1.out.blk 6
  have q7:=cell_of_heap HV1.out.blk 7
  have q8:=cell_of_heap HV1.out.blk 8
  unfold progCells at q3 q4 q5 q6 q7 q8
  simp only [List.getElem?_toArray,List.getElem?_cons_zero,List.getElem?_cons_succ] at q3 q4 q5 q6 q7 q8
  have fq:∀ j,X1.frozen? ⟨B,j,none⟩=false:=fun j=>frozen_of_heap HV1.out.blk j
  refine wpAnyH_ready (rs:=[9]) (by kernel_rfl) (by simp) ?_
  refine AllReadyH.cons rfl (fun KK hKK=>?_) AllReadyH.nil
  go_simp
  have hblk:=HV1.out.blk
  unfold progCells at hblk
  have h6:=setAll_mid [.int .i64 v.ag,.int .i64 (v.hs 0),.int .i64 (v.hs 1),.int .i64 (v.hs 2),.int .i64 (v.hs 3),.int .i64 (v.hs 4),.int .i64 0,.bool false,.bool false,.bool false,.bool false,.bool false,.slice none 0 0,.bool false] [sl v.gd v.d.length v.cd,.int .i64 0,.int .i64 0,.slice none 0 0,.int .i64 0,.slice (some ⟨gf,0,none⟩) (recBytes inner).length cf] X1 [.int .i64 v.kp,.int .i64 v.me,.int .i64 v.pa] [sl v.gd v.d.length v.cd,.int .i64 v.m.view,.int .i64 v.m.last,sl v.gl v.m.ls.length v.cl,.int .i64 v.arm,sl v.gf v.lost.length v.cf] hblk rfl
  have t6:=setAll_touch B [sl v.gd v.d.length v.cd,.int .i64 0,.int .i64 0,.slice none 0 0,.int .i64 0,.slice (some ⟨gf,0,none⟩) (recBytes inner).length cf] X1 3
  change KK _ (setAll X1 B 3 [sl v.gd v.d.length v.cd,.int .i64 0,.int .i64 0,.slice none 0 0,.int .i64 0,.slice (some ⟨gf,0,none⟩) (recBytes inner).length cf])
  have h6':(setAll X1 B 3 [sl v.gd v.d.length v.cd,.int .i64 0,.int .i64 0,.slice none 0 0,.int .i64 0,.slice (some ⟨gf,0,none⟩) (recBytes inner).length cf]).heap[B]?=_:=h6
  clear h6
  generalize setAll X1 B 3 [sl v.gd v.d.length v.cd,.int .i64 0,.int .i64 0,.slice none 0 0,.int .i64 0,.slice (some ⟨gf,0,none⟩) (recBytes inner).length cf]=Z at *
  have hgB:∀ k,(some gf:Option Nat)=some k→w.heap.size≤k:=HO.out.new
  have CH:Hid (Chg w Z B v { v with m:=Mm.zero,arm:=0,lost:=recBytes inner,gl:=none,cl:=0,gf:=some gf,cf:=cf }):=by
    have ndB:∀ k,v.gd=some k→¬ (k=B):=fun k e e2=>HV.out.ne1.1 (by rw [e,e2])
    have nfB:∀ k,(some gf:Option Nat)=some k→¬ (k=B):=fun k e e2=>by have:=hgB k e;omega
    refine ⟨⟨h6',HV1.out.db.touch t6 ndB,HV1.out.dow.touch t6 ndB,fun j hj=>absurd hj (by simp [Mm.zero]),.inl ⟨rfl,rfl,rfl⟩,HO.out.at_.touch t6 nfB,HO.out.own.touch t6 nfB,⟨HV.out.ne1.1,(fun e=>by cases e),fun e=>nfB B e rfl⟩,(fun k _ e=>by cases e),fun k e e2=>?_,(fun k e=>by cases e)⟩,?_,fun k e=>?_⟩
    · have:=hgB k e2;have:=HV.out.dow.lt e;omega
    · exact (Touch.of_belowAll HB1.out _).trans t6 (fun i _ e=>.inl e)
    · rcases e with e | e | e | e
      · exact .inl (.inl e)
      · exact .inl (.inr (.inl e))
      · cases e
      · exact .inr (hgB k e)
  have z3:Z.cell? ⟨B,3,none⟩=some (.slice (v.gd.map fun k=>⟨k,0,none⟩) v.d.length v.cd):=cell_of_heap h6' 3
  clear h6' t6 hblk
  refine hKK.out _ _ z3 (fun hS=>?_)
  clear hKK KK hS
  refine wpAnyH_done (by kernel_rfl) ?_ _
  go_wp2
  go_ret
  exact ⟨gf,cf,rfl,CH.out⟩
theorem step_appRun {P:Program} {w:World} {ops:Array Oper} {o:Oper} {a:Act} {K:Act→World→Prop} {Q:Exit→Act→World→Prop} {E:Prop} (hgd:o.guard=none) (s y:Operand) (t tx:TypeId)
    (ho:o.op=.call { callee:=.builtin .append,args:=#[s,y],argTypes:=#[t,tx] }) (x1 x2 v:Value) (w':World) (hq:a.eval s=x1) (hx:a.eval y=x2) (hr:(Builtin.append_ #[t,tx] o.type #[x1,x2]).run P w=.ok v w')
    (h:K (a.put o.dst v) w'):if Region.wanted o (yielded ops a.tmps)=true then Oper.wp P o a w K Q else E:=by
  have hw:Region.wanted o (yielded ops a.tmps)=true:=by simp [Region.wanted,hgd]
  rw [if_pos hw]
  unfold Oper.wp execOp
  simp only [ho,resolve,invoke,builtin,Sem.run_bind,Sem.run_pure,Result.andThen_ok,List.map_toArray,List.map_cons,List.map_nil,hq,hx,hr]
  exact h
theorem PV.At.arm {v:PV} {w:World} {B:Nat} (h:v.At w B) (n:Int):Chg w (w.setCell ⟨B,7,none⟩ (.int .i64 n)) B v { v with arm:=n }:=by
  have t:Touch (fun k=>k=B) w (w.setCell ⟨B,7,none⟩ (.int .i64 n)):=(Touch.refl (fun k=>k=B) w).setCell (p:=⟨B,7,none⟩) (fun _=>rfl) _
  have hb:=heap_setCell h.blk 7 (.int .i64 n)
  have nd:∀ k,v.gd=some k→¬ (k=B):=fun k e e2=>h.ne1.1 (by rw [e,e2])
  have nl:∀ k,v.gl=some k→¬ (k=B):=fun k e e2=>h.ne1.2.1 (by rw [e,e2])
  have nf:∀ k,v.gf=some k→¬ (k=B):=fun k e e2=>h.ne1.2.2 (by rw [e,e2])
  refine ⟨⟨?_,h.db.touch t nd,h.dow.touch t nd,h.lb.touch t (fun q e=>?_),h.low.touch t nl,h.fb.touch t nf,h.fow.touch t nf,h.ne1,h.ne2⟩,t.mono (fun i _ e=>.inl e),fun k e=>.inl e⟩
  · unfold progCells at hb ⊢
    simp only [List.setIfInBounds_toArray,List.set_cons_zero,List.set_cons_succ] at hb
    exact hb
  · cases hg:v.gl with
    | none=>rw [hg] at e;cases e
    | some g0=>rw [hg] at e;cases e;exact nl g0 hg
theorem diskChg {v:PV} {w X:World} {B:Nat} {l2:List UInt8} {gd':Option Nat} {cd' n:Nat} (hv:v.At w B) (ha:BytesAt X gd' (v.d++l2)) (ho:OwnRow X 5 1 gd' (v.d++l2).length cd') (ht:Touch (fun k=>v.gd=some k) w X) (hn:∀ k,gd'=some k→v.gd=some k∨w.heap.size≤k) (hnn:n=(v.d++l2).length) :
    Chg w (X.setCell ⟨B,3,none⟩ (.slice (gd'.map fun k=>⟨k,0,none⟩) n cd')) B v { v with d:=v.d++l2,gd:=gd',cd:=cd' }:=by
  subst hnn
  have t:Touch (fun k=>k=B) X (X.setCell ⟨B,3,none⟩ (.slice (gd'.map fun k=>⟨k,0,none⟩) (v.d++l2).length cd')):=(Touch.refl (fun k=>k=B) X).setCell (p:=⟨B,3,none⟩) (fun _=>rfl) _
  have hB:=hv.lt
  have hX:=ht.heapAt hv.blk (fun e=>hv.ne1.1 e)
  have hb:=heap_setCell hX 3 (.slice (gd'.map fun k=>⟨k,0,none⟩) (v.d++l2).length cd')
  have nd:∀ k,gd'=some k→¬ (k=B):=fun k e e2=>by
    rcases hn k e with e3 | e3
    · exact hv.ne1.1 (by rw [e3,e2])
    · omega
  have nl:∀ k,v.gl=some k→¬ (k=B):=fun k e e2=>hv.ne1.2.1 (by rw [e,e2])
  have nf:∀ k,v.gf=some k→¬ (k=B):=fun k e e2=>hv.ne1.2.2 (by rw [e,e2])
  have ll:∀ k,v.gl=some k→¬ (v.gd=some k):=fun k e e2=>hv.ne2.1 k e2 e
  have lf:∀ k,v.gf=some k→¬ (v.gd=some k):=fun k e e2=>hv.ne2.2.1 k e2 e
  have hlb:LinesAt X (v.gl.map fun k=>(⟨k,0,none⟩:Addr)) v.m.ls:=hv.lb.touch ht (fun q e=>by
    cases hg:v.gl with
    | none=>rw [hg] at e;cases e
    | some g0=>rw [hg] at e;cases e;exact ll g0 hg)
  refine ⟨⟨?_,ha.touch t nd,ho.touch t nd,hlb.touch t (fun q e=>?_),(hv.low.touch ht ll).touch t nl,(hv.fb.touch ht lf).touch t nf,(hv.fow.touch ht lf).touch t nf,⟨fun e=>nd B e rfl,hv.ne1.2⟩,fun k e e2=>?_,fun k e e2=>?_,hv.ne2.2.2⟩,ht.mono (fun i _ e=>.inr (.inl e)) |>.trans t (fun i _ e=>.inl e),fun k e=>?_⟩
  · unfold progCells at hb ⊢
    simp only [List.setIfInBounds_toArray,List.set_cons_zero,List.set_cons_succ] at hb
    exact hb
  · cases hg:v.gl with
    | none=>rw [hg] at e;cases e
    | some g0=>rw [hg] at e;cases e;exact nl g0 hg
  · rcases hn k e with e3 | e3
    · exact hv.ne2.1 k e3 e2
    · have:=hv.low.lt e2;omega
  · rcases hn k e with e3 | e3
    · exact hv.ne2.2.1 k e3 e2
    · have:=hv.fow.lt e2;omega
  · rcases e with e | e | e | e
    · exact .inl (.inl e)
    · rcases hn k e with e3 | e3
      · exact .inl (.inr (.inl e3))
      · exact .inr e3
    · exact .inl (.inr (.inr (.inl e)))
    · exact .inl (.inr (.inr (.inr e)))
theorem saidChg {v u:PV} {w x y:World} {B:Nat} {m':Mm} {gl':Option Nat} {cl':Nat} {wB:World} (hc:Chg w x B v u) (hb:y.heap[B]?=some (.cells (progCells u.kp u.me u.pa u.gd u.d.length u.cd u.m u.gl u.cl u.arm u.gf u.lost.length u.cf u.ag u.hs) 103 (0,0))) (ht:Touch (fun k=>u.gl=some k) x y) (ho:OwnLines wB y gl' cl' m'.ls) (hf:∀ k,gl'=some k→u.gl=some k∨x.heap.size≤k) :
    Chg w (((y.setCell ⟨B,4,none⟩ (.int .i64 m'.view)).setCell ⟨B,5,none⟩ (.int .i64 m'.last)).setCell ⟨B,6,none⟩ (.slice (gl'.map fun k=>⟨k,0,none⟩) m'.ls.length cl')) B v { u with m:=m',gl:=gl',cl:=cl' }:=by
  have hu:=hc.at_
  refine hc.trans ?_
  have t:Touch (fun k=>k=B) y (((y.setCell ⟨B,4,none⟩ (.int .i64 m'.view)).setCell ⟨B,5,none⟩ (.int .i64 m'.last)).setCell ⟨B,6,none⟩ (.slice (gl'.map fun k=>⟨k,0,none⟩) m'.ls.length cl')):=(((Touch.refl (fun k=>k=B) y).setCell (p:=⟨B,4,none⟩) (fun _=>rfl) _).setCell (p:=⟨B,5,none⟩) (fun _=>rfl) _).setCell (p:=⟨B,6,none⟩) (fun _=>rfl) _
  have hbb:=heap_setCell (heap_setCell (heap_setCell hb 4 (.int .i64 m'.view)) 5 (.int .i64 m'.last)) 6 (.slice (gl'.map fun k=>⟨k,0,none⟩) m'.ls.length cl')
  have hB:=hu.lt
  have nd:∀ k,u.gd=some k→¬ (k=B):=fun k e e2=>hu.ne1.1 (by rw [e,e2])
  have nl:∀ k,gl'=some k→¬ (k=B):=fun k e e2=>by
    rcases hf k e with e3 | e3
    · exact hu.ne1.2.1 (by rw [e3,e2])
    · omega
  have nf:∀ k,u.gf=some k→¬ (k=B):=fun k e e2=>hu.ne1.2.2 (by rw [e,e2])
  have dl:∀ k,u.gd=some k→¬ (u.gl=some k):=fun k e e2=>hu.ne2.1 k e e2
  have fl:∀ k,u.gf=some k→¬ (u.gl=some k):=fun k e e2=>hu.ne2.2.2 k e2 e
  refine ⟨⟨?_,(hu.db.touch ht dl).touch t nd,(hu.dow.touch ht dl).touch t nd,ho.at_.touch t (fun q e=>?_),ho.own.touch t nl,(hu.fb.touch ht fl).touch t nf,(hu.fow.touch ht fl).touch t nf,⟨hu.ne1.1,fun e=>nl B e rfl,hu.ne1.2.2⟩,fun k e e2=>?_,hu.ne2.2.1,fun k e e2=>?_⟩,ht.mono (fun i _ e=>.inr (.inr (.inl e))) |>.trans t (fun i _ e=>.inl e),fun k e=>?_⟩
  · unfold progCells at hbb ⊢
    simp only [List.setIfInBounds_toArray,List.set_cons_zero,List.set_cons_succ] at hbb
    exact hbb
  · cases hg:gl' with
    | none=>rw [hg] at e;cases e
    | some g0=>rw [hg] at e;cases e;exact nl g0 hg
  · rcases hf k e2 with e3 | e3
    · exact hu.ne2.1 k e e3
    · have:=hu.dow.lt e;omega
  · rcases hf k e with e3 | e3
    · exact hu.ne2.2.2 k e3 e2
    · have:=hu.fow.lt e2;omega
  · rcases e with e | e | e | e
    · exact .inl (.inl e)
    · exact .inl (.inr (.inl e))
    · rcases hf k e with e3 | e3
      · exact .inl (.inr (.inr (.inl e3)))
      · exact .inr e3
    · exact .inl (.inr (.inr (.inr e)))
end
end Go.Proofs.YtolififimldmlaaGreat
