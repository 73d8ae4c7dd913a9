import Derived.Test.YtolififimldmlaaGreatPart24
import Derived.Test.YtolififimldmlaaGreatPart13
import Derived.Test.YtolififimldmlaaGreatPart17
set_option linter.unusedVariables false
set_option linter.unusedSimpArgs false
set_option maxRecDepth 100000
set_option maxHeartbeats 16000000
namespace Go.Proofs.YtolififimldmlaaGreat
section
open Go.RowKit
attribute [local go_sem ↓] Go.wp_at_zero Go.wp_at_succ
theorem Tryz.info3:(Tryz.prog.info? 3).map (fun i=>(i.zero,i.size,i.bytes))=some (some (.int .i64 0),1,8):=by kernel_rfl
structure OwnInts (w w':World) (g:Option Nat) (c:Nat) (l:List Int):Prop where
  at_:∀ j (h:j < l.length),∃ k,g=some k∧w'.cell? ⟨k,j,none⟩=some (.int .i64 l[j])
  own:OwnRow w' 3 1 g l.length c
  new:∀ k,g=some k→w.heap.size≤k
theorem OwnInts.below {w x y:World} {g:Option Nat} {c:Nat} {l:List Int} (h:OwnInts w x g c l) (hb:Below x.heap.size x y):OwnInts w y g c l :=
  ⟨fun j hj=>by obtain ⟨k,e,hc⟩:=h.at_ j hj;exact ⟨k,e,(hb.cell (World.block_lt_of_cell? _ _ hc)).trans hc⟩,h.own.touch (T:=fun _=>False) (Touch.of_belowAll hb _) (fun _ _ e=>e),h.new⟩
theorem OwnInts.none_ (w w':World):OwnInts w w' none 0 []:=⟨fun j hj=>absurd hj (by simp),.inl ⟨rfl,rfl,rfl⟩,fun k e=>by cases e⟩
theorem OwnInts.app {w X w2:World} {g:Option Nat} {c k g' c':Nat} {l:List Int} {x:Int} {o:Obj} (h:OwnInts w X g c l) (hb:Below w.heap.size w X) (hk:l.length=k) (P:AppPost (X.alloc o) w2 3 1 g k 1 [.int .i64 x] g' c'):OwnInts w w2 (some g') c' (l++[x])∧Below w.heap.size w w2:=by
  subst hk
  have s0:=hb.size
  have bA:Below w.heap.size w (X.alloc o):=hb.alloc s0 _
  refine ⟨⟨fun j hj=>⟨g',rfl,?_⟩,by rw [List.length_append];exact P.own,fun j e=>?_⟩,bA.trans (P.touch.below (by rw [World.size_alloc];omega) (fun j _ e=>h.new j e))⟩
  · rcases Nat.lt_or_ge j l.length with hlt | hge
    · obtain ⟨k,e,hc⟩:=h.at_ j hlt
      rw [List.getElem_append_left hlt,P.old j (by omega) k e,World.cell?_alloc_past _ _ _ (World.block_lt_of_cell? _ _ hc)];exact hc
    · rw [List.length_append,List.length_singleton] at hj
      have:=P.new 0 (by omega)
      have ej:j=l.length:=by omega
      subst ej
      simpa using this
  · have e:=Option.some.inj e
    subst e
    rcases P.lies with q | q
    · exact h.new _ q
    · rw [World.size_alloc] at q;omega
def othersL (me:Int):Nat→List Int
  | 0=>[]
  | n+1=>othersL me n++(if (n:Int)=me then [] else [(n:Int)])
theorem othersL_len (me:Int):∀ n,(othersL me n).length≤n:=by
  intro n
  induction n with
  | zero=>simp [othersL]
  | succ n ih =>
    unfold othersL
    rw [List.length_append]
    split <;> simp <;> omega
theorem othersL_mem {me:Int}:∀ {n:Nat} {x:Int},x ∈ othersL me n→0≤x∧x < n∧x≠me:=by
  intro n
  induction n with
  | zero=>intro x h;cases h
  | succ n ih =>
    intro x h
    unfold othersL at h
    rcases List.mem_append.1 h with h | h
    · have:=ih h;omega
    · split at h
      · cases h
      · have:x=n:=by simpa using h
        omega
section
variable (v:PV) (B:Nat) (w:World) (h:v.At w B)
include h
theorem othersV (n:Nat) (hk:v.kp=n) (hn:n≤5):Calls Tryz.prog 134 #[.pointer (some ⟨B,0,none⟩)] w fun e w'=>∃ g c,e=.returned (sl g (othersL v.me n).length c)∧OwnInts w w' g c (othersL v.me n)∧Below w.heap.size w w':=by
  have c0:w.cell? ⟨B,0,none⟩=some (.int .i64 n):=by rw [← hk];exact cell_of_heap h.blk 0
  have IO:Hid (∀ z (x:Int),Below w.heap.size w z→0≤x→x < n→Calls Tryz.prog 80 #[.pointer (some ⟨B,0,none⟩),.int .i64 x] z fun e w'=>e=.returned (.bool (x != v.me))∧Below z.heap.size z w'):=fun z x hz h1 h2=>by
    have:=isOtherV v B z (h.below hz) x
    rw [hk,decide_eq_true h1,decide_eq_true h2,Bool.true_and,Bool.true_and] at this
    exact this
  obtain ⟨ii,hii,hii0,hii1,hii2⟩:=info_parts Tryz.info3
  clear h hk
  generalize v.me=me at *
  go_enter Tryz.func134,Tryz.ntmps134
  go_wp2
  go_loopw [3,10] (fun r i wr=>∃ (k:Nat) (g:Option Nat) (c m:Nat),k≤n∧i=.int .i64 k∧r=.slice (g.map fun q=>⟨q,0,none⟩) m c∧(othersL me k).length=m∧Hid (OwnInts w wr g c (othersL me k))∧Hid (Below w.heap.size w wr)) (fun _ i _=>n - (intOf i).toNat)
  case atStart=>exact ⟨0,none,0,0,Nat.zero_le _,rfl,rfl,rfl,OwnInts.none_ _ _,Below.refl _ _⟩
  case round =>
    obtain ⟨k,g,c,m,hk,rfl,rfl,hm,HO,HB⟩:=hrel
    have hml:=othersL_len me k
    by_cases hlt:k < n
    · have b1:(k:Int) < (n:Int):=by omega
      by_cases hme:(k:Int)=me
      · have hbe:((k:Int) != me)=false:=by simp [hme]
        have HME:=hid hme
        clear hme
        have HI:=hid (IO.out wr k HB.out (by omega) b1)
        rw [hbe] at HI
        go_wp2_with fail
        refine HI.out.mono ?_
        rintro e x1 ⟨rfl,hb1⟩
        have HB1:=hid (HB.out.trans (hb1.mono HB.out.size))
        have HO1:=hid (HO.out.below hb1)
        clear hb1
        go_wp2
        go_roundw
        case rel=>exact ⟨k+1,g,c,m,by omega,by go_num,rfl,by unfold othersL;rw [if_pos HME.out,List.append_nil];exact hm,by unfold othersL;rw [if_pos HME.out,List.append_nil];exact HO1,HB1⟩
        case measure=>simp [intOf];omega
      · have hbe:((k:Int) != me)=true:=by simp [hme]
        have HI:=hid (IO.out wr k HB.out (by omega) b1)
        rw [hbe] at HI
        go_wp2_with fail
        refine HI.out.mono ?_
        rintro e x1 ⟨rfl,hb1⟩
        have HB1:=hid (HB.out.trans (hb1.mono HB.out.size))
        have HO1:=hid (HO.out.below hb1)
        have HOW:Hid (OwnRow (x1.alloc (.cells #[.int .i64 k] 3)) 3 1 g m c):=by have:=HO1.out.own.alloc (.cells #[.int .i64 k] 3);rw [hm] at this;exact this
        clear hb1
        go_wp2_with (at_builtin;refine wpList_app _ rfl (.tmp 16) (.tmp 18) 221 rfl 3 ii (.int .i64 0) 1 8 Tryz.underlying221 hii hii0 hii1 hii2 rfl g m c (by rfl) HOW.out ⟨x1.heap.size,0,none⟩ 1 1 [.int .i64 k] rfl rfl ?c1 ?c2 (by omega) (by omega) (by omega) ?_)
        case c1=>exact World.news_of_block (heap_alloc_new x1 _)
        case c2=>intro u hu;simp at hu;subst hu;rfl
        intro g2 c2 w3 Q
        have HA:=hid (HO1.out.app HB1.out hm Q)
        clear Q
        go_wp2
        go_roundw
        case rel=>exact ⟨k+1,some g2,c2,m+1,by omega,by go_num,rfl,by unfold othersL;rw [if_neg hme,List.length_append,hm];rfl,by unfold othersL;rw [if_neg hme];exact HA.out.1,HA.out.2⟩
        case measure=>simp [intOf];omega
    · have hkn:k=n:=by omega
      subst hkn
      subst hm
      go_wp2
      go_ret
      exact ⟨g,c,rfl,HO.out,HB.out⟩
end
structure OutG where
  cl:Bool
  tk:Int
  b:List UInt8
structure OwnOuts (w w':World) (g:Option Nat) (c:Nat) (os:List OutG) (gs:Nat→Option Nat) (cs:Nat→Nat):Prop where
  own:OwnRow w' 71 3 g os.length c
  new:∀ k,g=some k→w.heap.size≤k
  at_:∀ j (h:j < os.length),∃ k,g=some k∧w'.cell? ⟨k,j * 3,none⟩=some (.bool os[j].cl)∧w'.cell? ⟨k,j * 3+1,none⟩=some (.int .i64 os[j].tk)∧w'.cell? ⟨k,j * 3+2,none⟩=some (sl (gs j) os[j].b.length (cs j))
  bs:∀ j (h:j < os.length),OwnBytes w w' (gs j) (cs j) os[j].b
  ne:∀ j,j < os.length→∀ k,gs j=some k→g≠some k
  ds:∀ i j,i < j→j < os.length→∀ k,gs i=some k→gs j≠some k
theorem OwnOuts.none_ (w w':World):OwnOuts w w' none 0 [] (fun _=>none) (fun _=>0) :=
  ⟨.inl ⟨rfl,rfl,rfl⟩,(fun k e=>by cases e),fun j hj=>absurd hj (by simp),fun j hj=>absurd hj (by simp),fun j hj=>absurd hj (by simp),fun i j _ hj=>absurd hj (by simp)⟩
theorem OwnOuts.below {w x y:World} {g:Option Nat} {c:Nat} {os:List OutG} {gs:Nat→Option Nat} {cs:Nat→Nat} (h:OwnOuts w x g c os gs cs) (hb:Below x.heap.size x y):OwnOuts w y g c os gs cs :=
  ⟨h.own.touch (T:=fun _=>False) (Touch.of_belowAll hb _) (fun _ _ e=>e),h.new,fun j hj=>by
    obtain ⟨k,e,h0,h1,h2⟩:=h.at_ j hj
    exact ⟨k,e,(hb.cell (World.block_lt_of_cell? _ _ h0)).trans h0,(hb.cell (World.block_lt_of_cell? _ _ h1)).trans h1,(hb.cell (World.block_lt_of_cell? _ _ h2)).trans h2⟩,fun j hj=>(h.bs j hj).below hb,h.ne,h.ds⟩
theorem OwnOuts.base {u w x:World} {g:Option Nat} {c:Nat} {os:List OutG} {gs:Nat→Option Nat} {cs:Nat→Nat} (h:OwnOuts w x g c os gs cs) (hb:u.heap.size≤w.heap.size):OwnOuts u x g c os gs cs :=
  ⟨h.own,fun k e=>Nat.le_trans hb (h.new k e),h.at_,fun j hj=>(h.bs j hj).base hb,h.ne,h.ds⟩
theorem OwnBytes.touch {T:Nat→Prop} {w x y:World} {g:Option Nat} {c:Nat} {l:List UInt8} (h:OwnBytes w x g c l) (ht:Touch T x y) (hn:∀ k,g=some k→¬ T k):OwnBytes w y g c l :=
  ⟨h.at_.touch ht hn,h.own.touch ht hn,h.new⟩
theorem OwnOuts.app {w X X1 w3:World} {g gb:Option Nat} {c cb k g' c':Nat} {os:List OutG} {gs:Nat→Option Nat} {cs:Nat→Nat} {x:OutG} {o:Obj} (h:OwnOuts w X g c os gs cs) (hb:Below w.heap.size w X) (hk:os.length=k) (hb1:Below X.heap.size X X1) (hx:OwnBytes X X1 gb cb x.b)
    (P:AppPost (X1.alloc o) w3 71 3 g k 1 [.bool x.cl,.int .i64 x.tk,sl gb x.b.length cb] g' c') :
    OwnOuts w w3 (some g') c' (os++[x]) (fun j=>if j=os.length then gb else gs j) (fun j=>if j=os.length then cb else cs j)∧Below w.heap.size w w3:=by
  subst hk
  have s0:=hb.size
  have s1:=hb1.size
  have h1:=h.below hb1
  have bA:Below w.heap.size w (X1.alloc o):=(hb.trans (hb1.mono s0)).alloc (by omega) _
  have hA:=h1.below ((Below.refl _ X1).alloc (Nat.le_refl _) o)
  have hxA:=hx.below ((Below.refl _ X1).alloc (Nat.le_refl _) o)
  have gT:∀ k,gb=some k→¬ (g=some k):=fun k e e2=>by have:=hx.new k e;have:=h.own.lt e2;omega
  have gG:∀ k,gb=some k→g'≠k:=fun k e e2=>by
    subst e2
    rcases P.lies with q | q
    · exact gT _ e q
    · have:=hxA.own.lt e;omega
  have oG:∀ j,j < os.length→∀ k,gs j=some k→g'≠k:=fun j hj k e e2=>by
    subst e2
    rcases P.lies with q | q
    · exact h.ne j hj _ e q
    · have:=(hA.bs j hj).own.lt e;omega
  refine ⟨⟨by rw [List.length_append];exact P.own,fun j e=>?_,fun j hj=>⟨g',rfl,?_⟩,fun j hj=>?_,fun j hj k e=>?_,fun i j hij hj k e=>?_⟩,bA.trans (P.touch.below (by rw [World.size_alloc];omega) (fun j _ e=>h.new j e))⟩
  · have e:=Option.some.inj e
    subst e
    rcases P.lies with q | q
    · exact h.new _ q
    · rw [World.size_alloc] at q;omega
  · rw [List.length_append,List.length_singleton] at hj
    by_cases ej:j=os.length
    · subst ej
      have n0:=P.new 0 (by omega)
      have n1:=P.new 1 (by omega)
      have n2:=P.new 2 (by omega)
      simp only [if_true,List.getElem_append_right (Nat.le_refl _),Nat.sub_self,List.getElem_singleton]
      exact ⟨by simpa using n0,by simpa using n1,by simpa using n2⟩
    · have hlt:j < os.length:=by omega
      obtain ⟨k,e,h0,h1,h2⟩:=hA.at_ j hlt
      simp only [if_neg ej]
      rw [List.getElem_append_left hlt,P.old (j * 3) (by omega) k e,P.old (j * 3+1) (by omega) k e,P.old (j * 3+2) (by omega) k e]
      exact ⟨h0,h1,h2⟩
  · rw [List.length_append,List.length_singleton] at hj
    by_cases ej:j=os.length
    · subst ej
      simp only [if_true,List.getElem_append_right (Nat.le_refl _),Nat.sub_self,List.getElem_singleton]
      exact (hxA.touch P.touch (fun k e=>gT k e)).base (by omega)
    · have hlt:j < os.length:=by omega
      simp only [if_neg ej]
      rw [List.getElem_append_left hlt]
      exact (hA.bs j hlt).touch P.touch (fun k e=>h.ne j hlt k e)
  · rw [List.length_append,List.length_singleton] at hj
    by_cases ej:j=os.length
    · simp only [if_pos ej] at e;exact fun e2=>gG k e (Option.some.inj e2)
    · simp only [if_neg ej] at e;exact fun e2=>oG j (by omega) k e (Option.some.inj e2)
  · rw [List.length_append,List.length_singleton] at hj
    have hi:i≠os.length:=by omega
    simp only [if_neg hi] at e
    by_cases ej:j=os.length
    · simp only [if_pos ej]
      exact fun e2=>by have:=hx.new k e2;have:=(h.bs i (by omega)).own.lt e;omega
    · simp only [if_neg ej];exact h.ds i j hij (by omega) k e
theorem OwnOuts.app1 {w X X1 w3:World} {g gb:Option Nat} {c cb k g' c':Nat} {os:List OutG} {gs:Nat→Option Nat} {cs:Nat→Nat} {x:OutG} {o:Obj} (h:OwnOuts w X g c os gs cs) (hb:w.heap.size≤X.heap.size) (hk:os.length=k) (hb1:Below X.heap.size X X1) (hx:OwnBytes X X1 gb cb x.b)
    (P:AppPost (X1.alloc o) w3 71 3 g k 1 [.bool x.cl,.int .i64 x.tk,sl gb x.b.length cb] g' c') :
    OwnOuts w w3 (some g') c' (os++[x]) (fun j=>if j=os.length then gb else gs j) (fun j=>if j=os.length then cb else cs j):=by
  subst hk
  have s0:=hb
  have s1:=hb1.size
  have h1:=h.below hb1
  have hA:=h1.below ((Below.refl _ X1).alloc (Nat.le_refl _) o)
  have hxA:=hx.below ((Below.refl _ X1).alloc (Nat.le_refl _) o)
  have gT:∀ k,gb=some k→¬ (g=some k):=fun k e e2=>by have:=hx.new k e;have:=h.own.lt e2;omega
  have gG:∀ k,gb=some k→g'≠k:=fun k e e2=>by
    subst e2
    rcases P.lies with q | q
    · exact gT _ e q
    · have:=hxA.own.lt e;omega
  have oG:∀ j,j < os.length→∀ k,gs j=some k→g'≠k:=fun j hj k e e2=>by
    subst e2
    rcases P.lies with q | q
    · exact h.ne j hj _ e q
    · have:=(hA.bs j hj).own.lt e;omega
  refine ⟨by rw [List.length_append];exact P.own,fun j e=>?_,fun j hj=>⟨g',rfl,?_⟩,fun j hj=>?_,fun j hj k e=>?_,fun i j hij hj k e=>?_⟩
  · have e:=Option.some.inj e
    subst e
    rcases P.lies with q | q
    · exact h.new _ q
    · rw [World.size_alloc] at q;omega
  · rw [List.length_append,List.length_singleton] at hj
    by_cases ej:j=os.length
    · subst ej
      have n0:=P.new 0 (by omega)
      have n1:=P.new 1 (by omega)
      have n2:=P.new 2 (by omega)
      simp only [if_true,List.getElem_append_right (Nat.le_refl _),Nat.sub_self,List.getElem_singleton]
      exact ⟨by simpa using n0,by simpa using n1,by simpa using n2⟩
    · have hlt:j < os.length:=by omega
      obtain ⟨k,e,h0,h1,h2⟩:=hA.at_ j hlt
      simp only [if_neg ej]
      rw [List.getElem_append_left hlt,P.old (j * 3) (by omega) k e,P.old (j * 3+1) (by omega) k e,P.old (j * 3+2) (by omega) k e]
      exact ⟨h0,h1,h2⟩
  · rw [List.length_append,List.length_singleton] at hj
    by_cases ej:j=os.length
    · subst ej
      simp only [if_true,List.getElem_append_right (Nat.le_refl _),Nat.sub_self,List.getElem_singleton]
      exact (hxA.touch P.touch (fun k e=>gT k e)).base (by omega)
    · have hlt:j < os.length:=by omega
      simp only [if_neg ej]
      rw [List.getElem_append_left hlt]
      exact (hA.bs j hlt).touch P.touch (fun k e=>h.ne j hlt k e)
  · rw [List.length_append,List.length_singleton] at hj
    by_cases ej:j=os.length
    · simp only [if_pos ej] at e;exact fun e2=>gG k e (Option.some.inj e2)
    · simp only [if_neg ej] at e;exact fun e2=>oG j (by omega) k e (Option.some.inj e2)
  · rw [List.length_append,List.length_singleton] at hj
    have hi:i≠os.length:=by omega
    simp only [if_neg hi] at e
    by_cases ej:j=os.length
    · simp only [if_pos ej]
      exact fun e2=>by have:=hx.new k e2;have:=(h.bs i (by omega)).own.lt e;omega
    · simp only [if_neg ej];exact h.ds i j hij (by omega) k e
def OutsRet (w:World) (os:List OutG) (e:Ending) (w':World):Prop:=∃ g c gs cs,e=.returned (sl g os.length c)∧OwnOuts w w' g c os gs cs∧Below w.heap.size w w'
section
variable (v:PV) (B:Nat) (w:World) (h:v.At w B)
include h
theorem toOthersV (n:Nat) (hk:v.kp=n) (hn:n≤5) (x:Value) (f:Fr) (HBy:∀ z,Below w.heap.size w z→Calls Tryz.prog 176 #[x] z (BytesRet z f)) :
    Calls Tryz.prog 124 #[.pointer (some ⟨B,0,none⟩),x] w (OutsRet w ((othersL v.me n).map fun t=>⟨false,t,packS f⟩)):=by
  have OV:=hid (othersV v B w h n hk hn)
  have TK:Hid (∀ z (t:Int),Below w.heap.size w z→Calls Tryz.prog 135 #[.int .i64 t,x] z (OutRet z false t (packS f))):=fun z t hz=>toKeeper_of x f t z (fun y hy=>HBy y (hz.trans (hy.mono hz.size)))
  unfold OutRet at TK
  obtain ⟨io,hio,hio0,hio1,hio2⟩:=info_parts Tryz.info71
  have hlen:=othersL_len v.me n
  clear h hk HBy
  generalize othersL v.me n=L at *
  generalize packS f=pb at *
  have HX:Hid (∀ g c gs cs w',OwnOuts w w' g c (L.map fun t=>(⟨false,t,pb⟩:OutG)) gs cs→Below w.heap.size w w'→OutsRet w (L.map fun t=>(⟨false,t,pb⟩:OutG)) (.returned (.slice (g.map fun k=>⟨k,0,none⟩) L.length c)) w'):=fun g c gs cs w' h1 h2=>⟨g,c,gs,cs,by rw [List.length_map];rfl,h1,h2⟩
  go_enter Tryz.func124,Tryz.ntmps124
  go_wp2_with fail
  refine OV.out.mono ?_
  rintro e X0 ⟨gi,ci,rfl,hoi,hb0⟩
  have HOI:=hid hoi
  have HB0:=hid hb0
  clear hoi hb0 OV
  unfold sl
  go_wp2
  go_loopw [5,11] (fun r i wr=>∃ (k:Nat) (g:Option Nat) (c:Nat) (gs:Nat→Option Nat) (cs:Nat→Nat),k≤L.length∧i=.int .i64 k∧r=.slice (g.map fun q=>⟨q,0,none⟩) k c∧Hid (OwnOuts w wr g c ((L.take k).map fun t=>(⟨false,t,pb⟩:OutG)) gs cs)∧Hid (Below X0.heap.size X0 wr)∧Hid (∀ q,g=some q→X0.heap.size≤q)) (fun _ i _=>L.length - (intOf i).toNat)
  case atStart=>exact ⟨0,none,0,_,_,Nat.zero_le _,rfl,rfl,OwnOuts.none_ _ _,Below.refl _ _,fun q e=>by cases e⟩
  case round =>
    obtain ⟨k,g,c,gs,cs,hk,rfl,rfl,HO,HB,HG⟩:=hrel
    by_cases hlt:k < L.length
    · have b0:(0:Int)≤(k:Int):=by omega
      have b1:(k:Int) < (L.length:Int):=by omega
      obtain ⟨gg,he,hc⟩:=(HOI.out.below HB.out).at_ k hlt
      subst he
      simp only [Option.map_some]
      have HBw:=hid (HB0.out.trans (HB.out.mono HB0.out.size))
      have HTK:=hid (TK.out wr L[k] HBw.out)
      have hkl:((L.take k).map fun t=>(⟨false,t,pb⟩:OutG)).length=k:=by rw [List.length_map,List.length_take];omega
      have htk:Hid (L.take (k+1)=L.take k++[L[k]]):=by show _=_;rw [List.take_add_one,List.getElem?_eq_getElem hlt];rfl
      generalize L[k]=t at *
      go_wp2_with fail
      refine HTK.out.mono ?_
      rintro e x1 ⟨gb,cb,rfl,hob,hb1⟩
      have HB1:=hid hb1
      have HOB:=hid hob
      have HOW:Hid (OwnRow (x1.alloc (.cells #[.bool false,.int .i64 t,.slice (gb.map fun q=>⟨q,0,none⟩) pb.length cb] 71)) 71 3 g k c):=by
        have:=(HO.out.below hb1).own.alloc (.cells #[.bool false,.int .i64 t,.slice (gb.map fun q=>⟨q,0,none⟩) pb.length cb] 71)
        rw [hkl] at this;exact this
      clear hob hb1
      unfold sl
      go_wp2_with (at_builtin;refine wpList_app _ rfl (.tmp 15) (.tmp 19) 54 rfl 71 io (.agg #[.bool false,.int .i64 0,.slice none 0 0]) 3 40 Tryz.underlying54 hio hio0 hio1 hio2 rfl g k c (by rfl) HOW.out ⟨x1.heap.size,0,none⟩ 1 1 [.bool false,.int .i64 t,.slice (gb.map fun q=>⟨q,0,none⟩) pb.length cb] rfl rfl ?c1 ?c2 (by omega) (by omega) (by omega) ?_)
      case c1=>exact World.news_of_block (heap_alloc_new x1 _)
      case c2=>intro u hu;simp at hu;rcases hu with rfl | rfl | rfl <;> rfl
      intro g2 c2 w3 Q
      have HA:=hid (OwnOuts.app (x:=⟨false,t,pb⟩) HO.out HBw.out hkl HB1.out HOB.out Q)
      have HBX:Hid (Below X0.heap.size X0 w3):=(HB.out.trans ((HB1.out.alloc HB1.out.size _).mono HB.out.size)).trans (Q.touch.below (by rw [World.size_alloc];have:=HB.out.size;have:=HB1.out.size;omega) (fun j _ e=>HG.out j e))
      have HG2:Hid (∀ q,some g2=some q→X0.heap.size≤q):=fun q e=>by
        have e:=Option.some.inj e
        subst e
        rcases Q.lies with q | q
        · exact HG.out _ q
        · rw [World.size_alloc] at q;have:=HB.out.size;have:=HB1.out.size;omega
      clear Q
      go_wp2
      go_roundw
      case rel=>exact ⟨k+1,some g2,c2,_,_,by omega,by go_num,rfl,by rw [htk.out,List.map_append];exact HA.out.1,HBX,HG2⟩
      case measure=>simp [intOf];omega
    · have hkn:k=L.length:=by omega
      subst hkn
      rw [List.take_of_length_le (Nat.le_refl _)] at HO
      go_wp2
      go_ret
      exact HX.out g c gs cs _ HO.out (HB0.out.trans (HB.out.mono HB0.out.size))
end
structure RV where
  kp:Int
  me:Int
  pa:Int
  d:List UInt8
  arm:Int
  dead:Bool
  lost:List UInt8
  m:Mm
  ag:Nat
  hs:Nat→Int
  g:Option Nat
  c:Nat
  os:List OutG
  sg:Option Nat
  sc:Nat
def RV.cells (v:RV):Array Value :=
  #[.int .i64 v.kp,.int .i64 v.me,.int .i64 v.pa,.string ⟨v.d.toArray⟩,.int .i64 v.arm,.bool v.dead,.string ⟨v.lost.toArray⟩,.int .i64 v.m.view,.int .i64 v.m.last,.slice (v.g.map fun k=>⟨k,0,none⟩) v.m.ls.length v.c,.int .i64 v.ag,
    .int .i64 (v.hs 0),.int .i64 (v.hs 1),.int .i64 (v.hs 2),.int .i64 (v.hs 3),.int .i64 (v.hs 4),.bool false,.bool false,.bool false,.bool false,.bool false,.bool false,.bool false,.bool false,.bool false,.bool false,
    .int .i64 0,.int .i64 0,.int .i64 0,.slice none 0 0,.int .i64 0,.int .i64 0,.int .i64 0,.slice none 0 0,.int .i64 0,.int .i64 0,.int .i64 0,.slice none 0 0,.int .i64 0,.int .i64 0,.int .i64 0,.slice none 0 0,.int .i64 0,.int .i64 0,.int .i64 0,.slice none 0 0,
    .bool false,.int .i64 0,.slice (v.sg.map fun k=>⟨k,0,none⟩) v.os.length v.sc]
structure OwnOutsR (w:World) (g:Option Nat) (c:Nat) (os:List OutG):Prop where
  own:OwnRow w 190 3 g os.length c
  at_:∀ j (h:j < os.length),∃ k,g=some k∧w.cell? ⟨k,j * 3,none⟩=some (.bool os[j].cl)∧w.cell? ⟨k,j * 3+1,none⟩=some (.int .i64 os[j].tk)∧w.cell? ⟨k,j * 3+2,none⟩=some (.string ⟨os[j].b.toArray⟩)
theorem OwnOutsR.none_ (w:World):OwnOutsR w none 0 []:=⟨.inl ⟨rfl,rfl,rfl⟩,fun j hj=>absurd hj (Nat.not_lt_zero _)⟩
theorem OwnOutsR.touch {T:Nat→Prop} {w w':World} {g:Option Nat} {c:Nat} {os:List OutG} (h:OwnOutsR w g c os) (ht:Touch T w w') (hn:∀ k,g=some k→¬ T k):OwnOutsR w' g c os :=
  ⟨h.own.touch ht hn,fun j hj=>by
    obtain ⟨k,e,h0,h1,h2⟩:=h.at_ j hj
    exact ⟨k,e,ht.cell h0 (hn k e),ht.cell h1 (hn k e),ht.cell h2 (hn k e)⟩⟩
theorem RowT.ne {w:World} {e e':TypeId} {size n c B:Nat} {b:Option Nat} {cur:Array Value} {f:Nat × Nat} (h:OwnRow w e size b n c) (hB:w.heap[B]?=some (.cells cur e' f)) (hne:e≠e'):b≠some B:=by
  rintro rfl
  rcases h with ⟨h,_⟩ | ⟨g,cu,h,hh,_⟩
  · cases h
  · cases h
    rw [hh] at hB
    simp at hB
    exact hne hB.2.1
structure RV.At (v:RV) (w:World) (K:Nat):Prop where
  blk:w.heap[K]?=some (.cells v.cells 185 (0,0))
  ls:LinesAt w (v.g.map fun k=>(⟨k,0,none⟩:Addr)) v.m.ls
  lc:v.m.ls.length≤v.c
  so:OwnOutsR w v.sg v.sc v.os
  gK:v.m.ls≠[]→v.g≠some K
  gS:v.m.ls≠[]→∀ k,v.sg=some k→v.g≠some k
theorem RV.At.lt {v:RV} {w:World} {K:Nat} (h:v.At w K):K < w.heap.size:=heap_lt h.blk
theorem RV.At.sK {v:RV} {w:World} {K:Nat} (h:v.At w K):v.sg≠some K:=RowT.ne h.so.own h.blk (by decide)
theorem LinesAt.touch' {T:Nat→Prop} {w w':World} {g:Option Nat} {ls:List Ln} (h:LinesAt w (g.map fun k=>(⟨k,0,none⟩:Addr)) ls) (ht:Touch T w w') (hn:ls≠[]→∀ k,g=some k→¬ T k):LinesAt w' (g.map fun k=>(⟨k,0,none⟩:Addr)) ls:=by
  cases ls with
  | nil=>exact fun j hj=>absurd hj (Nat.not_lt_zero _)
  | cons x xs =>
    refine h.touch ht (fun q e=>?_)
    cases g with
    | none=>cases e
    | some g0=>cases e;exact hn (by simp) g0 rfl
theorem RV.At.touch {v:RV} {w w':World} {K:Nat} {T:Nat→Prop} (h:v.At w K) (ht:Touch T w w') (hK:¬ T K) (hs:∀ k,v.sg=some k→¬ T k) (hg:v.m.ls≠[]→∀ k,v.g=some k→¬ T k):v.At w' K :=
  ⟨ht.heapAt h.blk hK,h.ls.touch' ht hg,h.lc,h.so.touch ht hs,h.gK,h.gS⟩
theorem RV.At.below {v:RV} {w w':World} {K:Nat} (h:v.At w K) (hb:Below w.heap.size w w'):v.At w' K :=
  h.touch (T:=fun _=>False) (Touch.of_belowAll hb _) (fun e=>e) (fun _ _ e=>e) (fun _ _ _ e=>e)
theorem LinesAt.rowlt {w:World} {g:Option Nat} {ls:List Ln} (h:LinesAt w (g.map fun k=>(⟨k,0,none⟩:Addr)) ls) (hn:ls≠[]) (k:Nat) (e:g=some k):k < w.heap.size:=by
  subst e
  cases ls with
  | nil=>exact absurd rfl hn
  | cons x xs =>
    obtain ⟨q,o,eq,h0,_⟩:=h 0 (by simp)
    cases eq
    exact World.block_lt_of_cell? _ _ h0
structure RChg (w w':World) (K:Nat) (v v':RV):Prop where
  at_:v'.At w' K
  tch:Touch (fun k=>k=K∨v.sg=some k) w w'
  sn:∀ k,v'.sg=some k→v.sg=some k∨w.heap.size≤k
  gn:v'.g=v.g∨∀ k,v'.g=some k→w.heap.size≤k
theorem RChg.same {w w':World} {K:Nat} {v:RV} (h:v.At w K) (hb:Below w.heap.size w w'):RChg w w' K v v:=⟨h.below hb,Touch.of_belowAll hb _,fun _ e=>.inl e,.inl rfl⟩
theorem RChg.trans {w x y:World} {K:Nat} {v u t:RV} (h:RChg w x K v u) (k:RChg x y K u t):RChg w y K v t :=
  ⟨k.at_,h.tch.trans k.tch (fun i hi e=>by
    rcases e with e | e
    · exact .inl e
    · rcases h.sn i e with e | e
      · exact .inr e
      · omega),fun i e=>by
    rcases k.sn i e with e | e
    · exact h.sn i e
    · exact .inr (Nat.le_trans h.tch.size e),by
    rcases k.gn with e | e
    · rw [e];exact h.gn
    · exact .inr (fun i ei=>Nat.le_trans h.tch.size (e i ei))⟩
theorem RChg.below {w x y:World} {K:Nat} {v u:RV} (h:RChg w x K v u) (hb:Below x.heap.size x y):RChg w y K v u:=h.trans (RChg.same h.at_ hb)
theorem RChg.of {w x y:World} {K:Nat} {v u:RV} (hb:Below w.heap.size w x) (hv:v.At w K) (h:RChg x y K v u):RChg w y K v u:=(RChg.same hv hb).trans h
theorem RV.At.cellChg {v u:RV} {w:World} {K j:Nat} {x:Value} (h:v.At w K) (hc:v.cells.setIfInBounds j x=u.cells) (hd:u.m.ls=v.m.ls∧u.os=v.os∧u.g=v.g∧u.c=v.c∧u.sg=v.sg∧u.sc=v.sc):RChg w (w.setCell ⟨K,j,none⟩ x) K v u:=by
  have t:Touch (fun k=>k=K) w (w.setCell ⟨K,j,none⟩ x):=(Touch.refl (fun k=>k=K) w).setCell (p:=⟨K,j,none⟩) (fun _=>rfl) _
  have hb:=heap_setCell h.blk j x
  obtain ⟨e1,e2,e3,e4,e5,e6⟩:=hd
  rw [hc] at hb
  refine ⟨⟨hb,?_,?_,?_,?_,?_⟩,t.mono (fun i _ e=>.inl e),fun k e=>.inl (by rw [← e5];exact e),.inl e3⟩
  · rw [e1,e3];exact h.ls.touch' t (fun hn k e e2=>h.gK hn (by rw [e,e2]))
  · rw [e1,e4];exact h.lc
  · rw [e2,e5,e6];exact h.so.touch t (fun k e e2=>h.sK (by rw [e,e2]))
  · rw [e1,e3];exact h.gK
  · rw [e1,e3,e5];exact h.gS
section
variable (v:RV) (K:Nat) (w:World) (h:v.At w K)
include h
theorem refIn:Calls Tryz.prog 105 #[.pointer (some ⟨K,0,none⟩)] w fun e w'=>e=.returned (.bool (decide (v.m.view=v.m.last)))∧Below w.heap.size w w':=by
  have c7:w.cell? ⟨K,7,none⟩=some (.int .i64 v.m.view):=cell_of_heap h.blk 7
  have c8:w.cell? ⟨K,8,none⟩=some (.int .i64 v.m.last):=cell_of_heap h.blk 8
  clear h
  go_enter Tryz.func105,Tryz.ntmps105
  go_wp2
  go_still_tail 11,(by kernel_rfl)
  go_wp2
  go_ret
  exact ⟨rfl,(Below.refl _ _).drew⟩
theorem refFew (hk:v.kp=3∨v.kp=5):Calls Tryz.prog 180 #[.pointer (some ⟨K,0,none⟩)] w fun e w'=>e=.returned (.int .i64 (v.kp / 2))∧Below w.heap.size w w':=by
  have c0:w.cell? ⟨K,0,none⟩=some (.int .i64 v.kp):=cell_of_heap h.blk 0
  clear h
  generalize v.kp=kp at *
  rcases hk with rfl | rfl
  all_goals
    go_enter Tryz.func180,Tryz.ntmps180
    go_wp2
    go_ret
    exact ⟨rfl,Below.refl _ _⟩
theorem refLeads (hk:v.kp=3∨v.kp=5) (hv:v.m.view=0):Calls Tryz.prog 106 #[.pointer (some ⟨K,0,none⟩)] w fun e w'=>e=.returned (.bool (decide (0=v.me)))∧Below w.heap.size w w':=by
  have c7:w.cell? ⟨K,7,none⟩=some (.int .i64 0):=by rw [← hv];exact cell_of_heap h.blk 7
  have c0:w.cell? ⟨K,0,none⟩=some (.int .i64 v.kp):=cell_of_heap h.blk 0
  have c1:w.cell? ⟨K,1,none⟩=some (.int .i64 v.me):=cell_of_heap h.blk 1
  clear h hv
  generalize v.kp=kp at *
  generalize v.me=me at *
  rcases hk with rfl | rfl
  all_goals
    go_enter Tryz.func106,Tryz.ntmps106
    go_wp2
    go_still_tail 17,(by kernel_rfl)
    go_wp2
    go_ret
    exact ⟨rfl,(Below.refl _ _).drew⟩
end
end
section
open Go.RowKit
theorem OwnOuts.touch {T:Nat→Prop} {u w w':World} {g:Option Nat} {c:Nat} {os:List OutG} {gs:Nat→Option Nat} {cs:Nat→Nat} (h:OwnOuts u w g c os gs cs) (ht:Touch T w w') (hn:∀ k,(g=some k∨∃ j,j < os.length∧gs j=some k)→¬ T k):OwnOuts u w' g c os gs cs :=
  ⟨h.own.touch ht (fun k e=>hn k (.inl e)),h.new,fun j hj=>by
    obtain ⟨k,e,h0,h1,h2⟩:=h.at_ j hj
    exact ⟨k,e,ht.cell h0 (hn k (.inl e)),ht.cell h1 (hn k (.inl e)),ht.cell h2 (hn k (.inl e))⟩,fun j hj=>(h.bs j hj).touch ht (fun k e=>hn k (.inr ⟨j,hj,e⟩)),h.ne,h.ds⟩
theorem OwnOuts.in_ {u w:World} {g:Option Nat} {c:Nat} {os:List OutG} {gs:Nat→Option Nat} {cs:Nat→Nat} (h:OwnOuts u w g c os gs cs) (k:Nat) (e:g=some k∨∃ j,j < os.length∧gs j=some k):u.heap.size≤k∧k < w.heap.size:=by
  rcases e with e | ⟨j,hj,e⟩
  · exact ⟨h.new k e,h.own.lt e⟩
  · exact ⟨(h.bs j hj).new k e,(h.bs j hj).own.lt e⟩
structure KeptN (y:World) (W:Nat) (psv:Value) (lead:Bool) (gh:Option Nat) (n m:Nat) (H:Nat→HG) (R:Nat→Prop) (z:World) (gh':Option Nat) (cap':Nat) (H':Nat→HG):Prop where
  wi:WI z W psv lead gh' (n+m) cap' H'
  gg:∀ k,gh'=some k→gh=some k∨y.heap.size≤k
  fr:∀ k,k < y.heap.size→Free W gh n H k→¬ R k→Free W gh' (n+m) H' k
  tch:Touch (fun k=>k=W∨gh=some k∨R k) y z
theorem KeptN.start {y:World} {W:Nat} {psv:Value} {lead:Bool} {gh:Option Nat} {n cap:Nat} {H:Nat→HG} (h:WI y W psv lead gh n cap H) (R:Nat→Prop):KeptN y W psv lead gh n 0 H R y gh cap H :=
  ⟨h,fun _ e=>.inl e,fun _ _ f _=>f,Touch.refl _ _⟩
theorem KeptN.below {y z z':World} {W:Nat} {psv:Value} {lead:Bool} {gh gh':Option Nat} {n m cap':Nat} {H H':Nat→HG} {R:Nat→Prop} (h:KeptN y W psv lead gh n m H R z gh' cap' H') (hb:Below z.heap.size z z'):KeptN y W psv lead gh n m H R z' gh' cap' H' :=
  ⟨h.wi.below hb,h.gg,h.fr,h.tch.trans (Touch.of_belowAll hb (fun _=>False)) (fun _ _ e=>e.elim)⟩
theorem KeptN.mono {y z:World} {W:Nat} {psv:Value} {lead:Bool} {gh gh':Option Nat} {n m cap':Nat} {H H':Nat→HG} {R R':Nat→Prop} (h:KeptN y W psv lead gh n m H R z gh' cap' H') (hr:∀ k,R k→R' k):KeptN y W psv lead gh n m H R' z gh' cap' H' :=
  ⟨h.wi,h.gg,fun k hk f r=>h.fr k hk f (fun e=>r (hr k e)),h.tch.mono (fun k _ e=>by
    rcases e with e | e | e
    · exact .inl e
    · exact .inr (.inl e)
    · exact .inr (.inr (hr k e)))⟩
theorem KeptN.next {y z z':World} {W:Nat} {psv:Value} {lead:Bool} {gh gh':Option Nat} {n m cap':Nat} {H H':Nat→HG} {R R':Nat→Prop} (h:KeptN y W psv lead gh n m H R z gh' cap' H') (q:KeptH z W psv lead gh' (n+m) H' R' z') :
    ∃ gh2 cap2 H2,KeptN y W psv lead gh n (m+4) H (fun k=>R k∨R' k) z' gh2 cap2 H2:=by
  obtain ⟨⟨gh2,cap2,H2,w2,g2,f2⟩,t2⟩:=q
  have hs:=h.tch.size
  refine ⟨gh2,cap2,H2,w2,fun k e=>?_,fun k hk f r=>f2 k (by omega) (h.fr k hk f (fun e=>r (.inl e))) (fun e=>r (.inr e)),(h.tch.mono (T':=fun k=>k=W∨gh=some k∨(R k∨R' k)) (fun k _ e=>?_)).trans t2 (fun k hk e=>?_)⟩
  · rcases g2 k e with e | e
    · exact h.gg k e
    · exact .inr (by omega)
  · rcases e with e | e | e
    · exact .inl e
    · exact .inr (.inl e)
    · exact .inr (.inr (.inl e))
  · rcases e with e | e | e
    · exact .inl e
    · rcases h.gg k e with e | e
      · exact .inr (.inl e)
      · omega
    · exact .inr (.inr (.inr e))
end
end Go.Proofs.YtolififimldmlaaGreat
