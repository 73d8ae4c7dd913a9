import Derived.Test.YtolififimldmlaaGreatPart02
import Derived.Test.YtolififimldmlaaGreatPart04
set_option linter.unusedVariables false
set_option linter.unusedSimpArgs false
set_option maxRecDepth 100000
set_option maxHeartbeats 16000000
namespace Go.Proofs.YtolififimldmlaaGreat
section
open Go.RowKit
attribute [local go_sem ↓] Go.wp_at_zero Go.wp_at_succ
def takeN (b:List UInt8):Nat→Option (List Ln × List UInt8)
  | 0=>some ([],b)
  | k+1=>(takeN b k).bind fun p=>(takeLine p.2).map fun q=>(p.1++[q.1],q.2)
def takeLines (b:List UInt8):Option (List Ln × List UInt8):=if b.length=0 then none else takeN (b.drop 1) (b.getD 0 0).toNat
def tsLines (b:List UInt8):List Ln:=((takeLines b).map (·.1)).getD []
def tsRest (b:List UInt8):List UInt8:=((takeLines b).map (·.2)).getD []
def tsOk (b:List UInt8):Bool:=(takeLines b).isSome
theorem takeN_none (b:List UInt8) {k n:Nat} (h:k≤n) (hk:takeN b k=none):takeN b n=none:=by
  induction n with
  | zero => have : k = 0 := by omega
            subst this;exact hk
  | succ n ih =>
    by_cases e:k=n+1
    · subst e;exact hk
    · show (takeN b n).bind _=none
      rw [ih (by omega)];rfl
theorem takeN_step (b:List UInt8) (k:Nat) (ls:List Ln) (r:List UInt8) (h:takeN b k=some (ls,r)):takeN b (k+1)=(takeLine r).map fun q=>(ls++[q.1],q.2):=by
  show (takeN b k).bind _=_
  rw [h];rfl
theorem takeLine_some {r:List UInt8} (h:tlOk r=true):takeLine r=some (tlLine r,tlRest r):=by
  unfold tlOk at h
  cases e:takeLine r with
  | none=>rw [e] at h;cases h
  | some p=>simp [tlLine,tlRest,e]
theorem takeLine_none {r:List UInt8} (h:tlOk r=false):takeLine r=none:=by
  unfold tlOk at h
  cases e:takeLine r with
  | none=>rfl
  | some p=>rw [e] at h;cases h
theorem tlRest_len (r:List UInt8):(tlRest r).length≤r.length:=by
  unfold tlRest
  cases e:takeLine r with
  | none=>simp
  | some p =>
    unfold takeLine at e
    split at e
    · cases e
    · split at e
      · cases e
      · cases e;simp
theorem ts_no (b:List UInt8) (h:takeLines b=none):tsLines b=[]∧tsRest b=[]∧tsOk b=false:=by simp [tsLines,tsRest,tsOk,h]
theorem ts_yes (b:List UInt8) {ls:List Ln} {r:List UInt8} (h:takeLines b=some (ls,r)):tsLines b=ls∧tsRest b=r∧tsOk b=true:=by simp [tsLines,tsRest,tsOk,h]
theorem LinesAt.app {x y:World} {b:Option Nat} {ls:List Ln} {l:Ln} {n g c:Nat} (h:LinesAt x (b.map fun k=>(⟨k,0,none⟩:Addr)) ls) (hn:ls.length=n) (a:AppPost x y 27 3 b n 1 [.int .i64 l.c,.int .i64 l.t,.string ⟨l.s.toArray⟩] g c) :
    LinesAt y (some ⟨g,0,none⟩) (ls++[l]):=by
  intro j hj
  refine ⟨g,0,rfl,?_⟩
  simp only [Nat.zero_add]
  by_cases e:j=n
  · subst e
    have h0:=a.new 0 (by omega)
    have h1:=a.new 1 (by omega)
    have h2:=a.new 2 (by omega)
    subst hn
    rw [List.getElem_append_right (by omega)]
    simp only [Nat.sub_self,List.getElem_cons_zero]
    exact ⟨h0,h1,h2⟩
  · have hj':j < ls.length:=by simp at hj;omega
    obtain ⟨k,o,e1,h0,h1,h2⟩:=h j hj'
    cases b with
    | none=>cases e1
    | some k' =>
      simp only [Option.map_some,Option.some.injEq,Addr.mk.injEq] at e1
      obtain ⟨rfl,rfl,_⟩:=e1
      rw [List.getElem_append_left hj',a.old (j * 3) (by omega) _ rfl,a.old (j * 3+1) (by omega) _ rfl,a.old (j * 3+2) (by omega) _ rfl]
      simp only [Nat.zero_add] at h0 h1 h2
      exact ⟨h0,h1,h2⟩
structure OwnLines (w w':World) (g:Option Nat) (c:Nat) (ls:List Ln):Prop where
  at_:LinesAt w' (g.map fun k=>(⟨k,0,none⟩:Addr)) ls
  own:OwnRow w' 27 3 g ls.length c
  new:∀ k,g=some k→w.heap.size≤k
theorem LinesAt.alloc {w:World} {a:Option Addr} {ls:List Ln} (h:LinesAt w a ls) (o:Obj):LinesAt (w.alloc o) a ls:=h.below ((Below.refl _ _).alloc (Nat.le_refl _) _)
theorem OwnLines.app {w wr w1 w2:World} {g:Option Nat} {c k g' c':Nat} {ls:List Ln} {l:Ln} {o1 o2:Obj} (h:OwnLines w wr g c ls) (hb:Below w.heap.size w wr) (hk:ls.length=k) (hb1:Below wr.heap.size wr w1)
    (P:AppPost ((w1.alloc o1).alloc o2) w2 27 3 g k 1 [.int .i64 l.c,.int .i64 l.t,.string ⟨l.s.toArray⟩] g' c'):OwnLines w w2 (some g') c' (ls++[l])∧Below w.heap.size w w2:=by
  have s0:=hb.size
  have s1:=hb1.size
  have bA:Below w.heap.size w ((w1.alloc o1).alloc o2):=((hb.trans (hb1.mono s0)).alloc (by omega) _).alloc (by rw [World.size_alloc];omega) _
  refine ⟨⟨(((h.at_.below hb1).alloc _).alloc _).app hk P,?_,fun j e=>?_⟩,bA.trans (P.touch.below (by have:=bA.size;omega) (fun j _ e=>h.new j e))⟩
  · have:=P.own
    rw [List.length_append,hk];exact this
  · have e:=Option.some.inj e
    subst e
    rcases P.lies with q | q
    · exact h.new _ q
    · have:=bA.size;omega
theorem linesAt_any (b:List UInt8) (w:World) (hn:b.length≤100000000) :
    Calls Tryz.prog 146 #[.string ⟨b.toArray⟩] w fun e w'=>∃ g c,e=.returned (.tuple #[sl g (tsLines b).length c,.string ⟨(tsRest b).toArray⟩,.bool (tsOk b)])∧OwnLines w w' g c (tsLines b)∧Below w.heap.size w w':=by
  rcases Nat.eq_zero_or_pos b.length with h0 | h0
  · obtain ⟨e1,e2,e3⟩:=ts_no b (by unfold takeLines;rw [if_pos h0])
    rw [e1,e2,e3]
    clear e1 e2 e3
    have hz:((b.length:Int) == 0)=true:=beq_iff_eq.2 (by omega)
    go_enter Tryz.func146,Tryz.ntmps146
    go_wp2
    go_ret3
    exact ⟨none,0,rfl,⟨fun j hj=>absurd hj (by simp),.inl ⟨rfl,rfl,rfl⟩,fun k e=>by cases e⟩,Below.refl _ _⟩
  · have i0:∀ h,(⟨b.toArray⟩:ByteArray)[0]'h=b.getD 0 0:=fun h=>by rw [getD_at b 0 0 (by omega)];rfl
    have HTL:Hid (takeLines b=takeN (b.drop 1) (b.getD 0 0).toNat):=by show takeLines b=_;unfold takeLines;rw [if_neg (by omega)]
    generalize hz:b.getD 0 0=z at i0 HTL
    clear hz
    have hz:z.toNat < 256:=z.toNat_lt
    have hz2:((b.length:Int) == 0)=false:=beq_eq_false_iff_ne.2 (by omega)
    have hb1:(1:Int)≤(b.length:Int):=by omega
    have hlen:=List.length_drop (i:=1) (l:=b)
    have hlen2:(b.drop 1).length≤100000000:=by omega
    have HX:Hid ((⟨b.toArray⟩:ByteArray).extract 1 b.length=⟨(b.drop 1).toArray⟩):=by
      show _=_
      rw [extr,List.take_of_length_le (by rw [List.length_drop];omega)]
    clear hlen
    obtain ⟨il,hil,hil0,hil1,hil2⟩:=info_parts Tryz.info27
    go_enter Tryz.func146,Tryz.ntmps146
    go_wp2
    rw [HX.out]
    generalize b.drop 1=b1 at *
    clear HX
    go_loopw [0,6,7] (fun s out i wr=>∃ (k:Nat) (ls:List Ln) (r:List UInt8) (g:Option Nat) (c:Nat),k≤z.toNat∧i=.int .i64 k∧s=.string ⟨r.toArray⟩∧out=.slice (g.map fun x=>⟨x,0,none⟩) k c∧r.length≤100000000 ∧
        Hid (takeN b1 k=some (ls,r)∧ls.length=k∧OwnLines w wr g c ls∧Below w.heap.size w wr)) (fun _ _ i _=>z.toNat - (intOf i).toNat)
    case atStart=>exact ⟨0,[],b1,none,0,Nat.zero_le _,rfl,rfl,rfl,hlen2,rfl,rfl,⟨fun j hj=>absurd hj (by simp),.inl ⟨rfl,rfl,rfl⟩,fun k e=>by cases e⟩,Below.refl _ _⟩
    case round =>
      obtain ⟨k,ls,r,g,c,hk,rfl,rfl,rfl,hr,HI⟩:=hrel
      by_cases hlt:k < z.toNat
      · go_wp2_with fail
        refine (lineAt_any r _ hr).mono ?_
        rintro e w1 ⟨rfl,hb1⟩
        have HB1:=hid hb1
        clear hb1
        cases hok:tlOk r
        · have HF:Hid (takeLines b=none):=by
            show _=_
            rw [HTL.out]
            exact takeN_none _ (show k+1≤z.toNat by omega) (by rw [takeN_step _ _ _ _ HI.out.1,takeLine_none hok];rfl)
          go_wp2
          go_ret3
          obtain ⟨e1,e2,e3⟩:=ts_no b HF.out
          rw [e1,e2,e3]
          exact ⟨none,0,rfl,⟨fun j hj=>absurd hj (by simp),.inl ⟨rfl,rfl,rfl⟩,fun k e=>by cases e⟩,(HI.out.2.2.2.trans (HB1.out.mono HI.out.2.2.2.size)).alloc (by have h1:=HI.out.2.2.2.size;have h2:=HB1.out.size;omega) _⟩
        · have HS:Hid (takeN b1 (k+1)=some (ls++[tlLine r],tlRest r)):=by
            show _=_
            rw [takeN_step _ _ _ _ HI.out.1,takeLine_some hok];rfl
          have hrl:=tlRest_len r
          generalize tlRest r=r' at HS hrl ⊢
          generalize tlLine r=x at HS ⊢
          clear hok
          have hown:Hid (OwnRow ((w1.alloc (.cells #[.int .i64 x.c,.int .i64 x.t,.string ⟨x.s.toArray⟩] 27)).alloc (.cells #[.int .i64 x.c,.int .i64 x.t,.string ⟨x.s.toArray⟩] 27)) 27 3 g k c):=by
            have h:=HI.out.2.2.1.own
            rw [HI.out.2.1] at h
            exact ((h.touch (T:=fun _=>False) (Touch.of_belowAll HB1.out _) (fun _ _ e=>e)).alloc _).alloc _
          go_wp2_with (at_builtin;refine wpList_app _ rfl (.tmp 32) (.tmp 34) 28 rfl 27 il (.agg #[.int .i64 0,.int .i64 0,.string ⟨#[]⟩]) 3 32 Tryz.underlying28 hil hil0 hil1 hil2 rfl g k c (by rfl) hown.out ⟨w1.heap.size+1,0,none⟩ 1 1 [.int .i64 x.c,.int .i64 x.t,.string ⟨x.s.toArray⟩] rfl rfl ?c1 ?c2 (by omega) (by omega) (by omega) ?_)
          case c1 =>
            have:=World.news_of_block (heap_alloc_new (w1.alloc (.cells #[.int .i64 x.c,.int .i64 x.t,.string ⟨x.s.toArray⟩] 27)) (.cells #[.int .i64 x.c,.int .i64 x.t,.string ⟨x.s.toArray⟩] 27))
            rw [World.size_alloc] at this
            exact this
          case c2=>intro u hu;simp at hu;rcases hu with rfl | rfl | rfl <;> rfl
          intro g' c' w2 P
          have HP:=hid P
          clear P
          go_wp2
          go_roundw
          case rel=>exact ⟨k+1,ls++[x],r',some g',c',by omega,by go_num,rfl,rfl,by omega,HS.out,by rw [List.length_append,HI.out.2.1];rfl,OwnLines.app HI.out.2.2.1 HI.out.2.2.2 HI.out.2.1 HB1.out HP.out⟩
          case measure=>simp [intOf];omega
      · go_wp2
        go_ret3
        have ek:k=z.toNat:=by omega
        subst ek
        obtain ⟨h1,h2,h3,h4⟩:=HI.out
        obtain ⟨e1,e2,e3⟩:=ts_yes b (HTL.out.trans h1)
        rw [e1,e2,e3,h2]
        exact ⟨g,c,rfl,h3,h4⟩
def Fr.zero:Fr:=⟨0,0,0,0,0,0,Ln.zero,[]⟩
def midOf (b:List UInt8):List UInt8:=(b.drop 6).take (b.length - 2 - 6)
def kindOf (b:List UInt8):Int:=(b.getD 0 0).toNat
def parseF (b:List UInt8):Fr :=
  ⟨kindOf b,(b.getD 1 0).toNat,(b.getD 2 0).toNat,(b.getD 3 0).toNat,(b.getD 4 0).toNat,(b.getD 5 0).toNat,
    if hasB (kindOf b) 49 then tlLine (midOf b) else Ln.zero,if hasB (kindOf b) 110 then tsLines (midOf b) else []⟩
def parseOk (b:List UInt8):Bool :=
  if hasB (kindOf b) 49 then tlOk (midOf b) && (tlRest (midOf b)).isEmpty else if hasB (kindOf b) 110 then tsOk (midOf b) && (tsRest (midOf b)).isEmpty else (midOf b).isEmpty
def unpackR (b:List UInt8):Option Fr :=
  if b.length < 8∨kindOf b < 1∨9 < kindOf b then none else if parseOk b=false then none else if (parseF b).ok=false∨(parseF b).bytes≠b then none else some (parseF b)
def unpackF (b:List UInt8):Fr:=(unpackR b).getD Fr.zero
def unpackE (b:List UInt8):Int:=if (unpackR b).isSome then 0 else 3
theorem un_no {b:List UInt8} (h:unpackR b=none):unpackF b=Fr.zero∧unpackE b=3:=by simp [unpackF,unpackE,h]
theorem un_yes {b:List UInt8} {f:Fr} (h:unpackR b=some f):unpackF b=f∧unpackE b=0:=by simp [unpackF,unpackE,h]
def RetFrame (w:World) (b:List UInt8) (e:Ending) (w':World):Prop :=
  ∃ g c,e=.returned (.tuple #[(unpackF b).val (g.map fun k=>(⟨k,0,none⟩:Addr)) c,.int .i64 (unpackE b)])∧OwnLines w w' g c (unpackF b).lines∧Below w.heap.size w w'
theorem ret_zero {w w':World} {b:List UInt8} (h:unpackR b=none) (hb:Below w.heap.size w w') :
    RetFrame w b (.returned (.tuple #[.agg #[.int .i64 0,.int .i64 0,.int .i64 0,.int .i64 0,.int .i64 0,.int .i64 0,.int .i64 0,.int .i64 0,.string ⟨#[]⟩,.slice none 0 0],.int .i64 3])) w':=by
  obtain ⟨e1,e2⟩:=un_no h
  refine ⟨none,0,?_,?_,hb⟩
  · rw [e1,e2];rfl
  · rw [e1];exact ⟨fun j hj=>absurd hj (by simp [Fr.zero]),.inl ⟨rfl,rfl,rfl⟩,fun k e=>by cases e⟩
theorem refUnpack_short (b:List UInt8) (w:World) (hn:b.length≤100000000) (h:b.length < 8∨kindOf b < 1∨9 < kindOf b) :
    Calls Tryz.prog 97 #[.string ⟨b.toArray⟩] w (RetFrame w b):=by
  have HN:Hid (unpackR b=none):=by show _=_;unfold unpackR;rw [if_pos h]
  rcases Nat.lt_or_ge b.length 8 with h8 | h8
  · clear h
    go_enter Tryz.func97,Tryz.ntmps97
    go_wp2
    exact bodyPost_ret (v:=.tuple #[.agg #[.int .i64 0,.int .i64 0,.int .i64 0,.int .i64 0,.int .i64 0,.int .i64 0,.int .i64 0,.int .i64 0,.string ⟨#[]⟩,.slice none 0 0],.int .i64 3]) (by simp [results,Tryz.results97,go_sem]) rfl (ret_zero HN.out (by first | exact (((Below.refl _ _).alloc (Nat.le_refl _) _).alloc (by simp) _) | skip))
  · have i0:∀ h,(⟨b.toArray⟩:ByteArray)[0]'h=b.getD 0 0:=fun h=>by rw [getD_at b 0 0 (by omega)];rfl
    unfold kindOf at h
    generalize b.getD 0 0=z at i0 h
    have hz:z.toNat < 256:=z.toNat_lt
    rcases Nat.lt_or_ge z.toNat 1 with h1 | h1
    · clear h
      go_enter Tryz.func97,Tryz.ntmps97
      go_wp2
      exact bodyPost_ret (v:=.tuple #[.agg #[.int .i64 0,.int .i64 0,.int .i64 0,.int .i64 0,.int .i64 0,.int .i64 0,.int .i64 0,.int .i64 0,.string ⟨#[]⟩,.slice none 0 0],.int .i64 3]) (by simp [results,Tryz.results97,go_sem]) rfl (ret_zero HN.out (((Below.refl _ _).alloc (Nat.le_refl _) _).alloc (by simp) _))
    · have h9:9 < z.toNat:=by omega
      clear h
      go_enter Tryz.func97,Tryz.ntmps97
      go_wp2
      exact bodyPost_ret (v:=.tuple #[.agg #[.int .i64 0,.int .i64 0,.int .i64 0,.int .i64 0,.int .i64 0,.int .i64 0,.int .i64 0,.int .i64 0,.string ⟨#[]⟩,.slice none 0 0],.int .i64 3]) (by simp [results,Tryz.results97,go_sem]) rfl (ret_zero HN.out (((Below.refl _ _).alloc (Nat.le_refl _) _).alloc (by simp) _))
end
section
theorem byteOf_u8 (x:UInt8):byteOf (x.toNat:Int)=x:=by
  have h:=x.toNat_lt
  unfold byteOf
  apply UInt8.toNat_inj.1
  rw [UInt8.toNat_ofNat'];omega
theorem takeLine_bytes {r:List UInt8} {l:Ln} {r':List UInt8} (h:takeLine r=some (l,r')):lineBytes l++r'=r:=by
  unfold takeLine at h
  split at h
  · cases h
  · rename_i h3
    split at h
    · cases h
    · rename_i h4
      simp only [Option.some.injEq,Prod.mk.injEq] at h
      obtain ⟨rfl,rfl⟩:=h
      match r,h3 with
      | a :: b :: c :: t,_ =>
        simp only [List.length_cons,List.getD_cons_succ,List.getD_cons_zero] at h4 ⊢
        have e:3+c.toNat=c.toNat+1+1+1:=by omega
        rw [e]
        simp only [lineBytes,byteOf_u8,List.drop_succ_cons,List.drop_zero,List.cons_append,List.nil_append]
        rw [List.length_take,Nat.min_eq_left (by omega),byteOf_u8,List.take_append_drop]
      | [],h=>simp at h
      | [_],h=>simp at h
      | [_,_],h=>simp at h
theorem takeN_bytes {b:List UInt8}:∀ {k:Nat} {ls:List Ln} {r:List UInt8},takeN b k=some (ls,r)→ls.length=k∧manyBytes ls++r=b:=by
  intro k
  induction k with
  | zero=>intro ls r h;cases h;exact ⟨rfl,rfl⟩
  | succ k ih =>
    intro ls r h
    cases e:takeN b k with
    | none=>exact absurd h (by show (takeN b k).bind _≠_;rw [e];simp)
    | some p =>
      obtain ⟨ls0,r0⟩:=p
      rw [takeN_step b k ls0 r0 e] at h
      obtain ⟨i1,i2⟩:=ih e
      cases e2:takeLine r0 with
      | none=>rw [e2] at h;cases h
      | some q =>
        obtain ⟨l,r1⟩:=q
        rw [e2] at h
        simp only [Option.map_some,Option.some.injEq,Prod.mk.injEq] at h
        obtain ⟨rfl,rfl⟩:=h
        refine ⟨by simp [i1],?_⟩
        rw [manyBytes_snoc,List.append_assoc,takeLine_bytes e2,i2]
theorem takeLines_bytes {b:List UInt8} {ls:List Ln} {r:List UInt8} (h:takeLines b=some (ls,r)):linesBytes ls++r=b:=by
  unfold takeLines at h
  split at h
  · cases h
  · rename_i h0
    obtain ⟨i1,i2⟩:=takeN_bytes h
    match b,h0 with
    | x :: t,_ =>
      simp only [List.getD_cons_zero,List.drop_succ_cons,List.drop_zero] at i1 i2
      unfold linesBytes
      rw [i1,byteOf_u8,List.cons_append,i2]
    | [],h=>exact absurd rfl h
theorem head_bytes (b:List UInt8) (h:8≤b.length):(parseF b).head=b.take 6:=by
  match b,h with
  | a :: b :: c :: d :: e :: f :: t,_=>simp [Fr.head,parseF,kindOf,byteOf_u8]
  | [],h | [_],h | [_,_],h | [_,_,_],h | [_,_,_,_],h | [_,_,_,_,_],h=>simp at h
theorem mid_split (b:List UInt8) (h:8≤b.length):b.take 6++midOf b=b.take (b.length - 2):=by
  unfold midOf
  have e:b.length - 2=6+(b.length - 2 - 6):=by omega
  conv=>rhs;rw [e,List.take_add]
theorem parse_body (b:List UInt8) (h:8≤b.length) (hp:parseOk b=true):(parseF b).body=b.take (b.length - 2):=by
  unfold Fr.body
  rw [head_bytes b h,← mid_split b h,List.append_assoc]
  congr 1
  show (if hasB (kindOf b) 49 then lineBytes (parseF b).line else [])++(if hasB (kindOf b) 110 then linesBytes (parseF b).lines else [])=midOf b
  unfold parseOk at hp
  cases h49:hasB (kindOf b) 49
  · rw [h49] at hp
    cases h110:hasB (kindOf b) 110
    · rw [h110] at hp
      simp only [Bool.false_eq_true,if_false,List.isEmpty_iff] at hp ⊢
      rw [hp];rfl
    · rw [h110] at hp
      simp only [Bool.false_eq_true,if_false,if_true,Bool.and_eq_true,List.isEmpty_iff] at hp ⊢
      have e:(parseF b).lines=tsLines (midOf b):=by simp [parseF,h110]
      rw [e,List.nil_append]
      cases e2:takeLines (midOf b) with
      | none=>simp [tsOk,e2] at hp
      | some q =>
        obtain ⟨ls,r⟩:=q
        have h2:=takeLines_bytes e2
        simp only [tsRest,tsLines,e2,Option.map_some,Option.getD_some] at hp ⊢
        rw [hp.2,List.append_nil] at h2
        exact h2
  · have h110:hasB (kindOf b) 110=false:=by
      cases h:hasB (kindOf b) 110
      · rfl
      · exact absurd ⟨h49,h⟩ (no_both _)
    rw [h49] at hp
    rw [h110]
    simp only [Bool.false_eq_true,if_false,if_true,Bool.and_eq_true,List.isEmpty_iff] at hp ⊢
    have e:(parseF b).line=tlLine (midOf b):=by simp [parseF,h49]
    rw [e,List.append_nil]
    cases e2:takeLine (midOf b) with
    | none=>simp [tlOk,e2] at hp
    | some q =>
      obtain ⟨l,r⟩:=q
      have h2:=takeLine_bytes e2
      simp only [tlRest,tlLine,e2,Option.map_some,Option.getD_some] at hp ⊢
      rw [hp.2,List.append_nil] at h2
      exact h2
def stripOk (b:List UInt8):Bool :=
  decide (2≤b.length) && ((b.getD (b.length - 2) 0 == UInt8.ofNat (chk (b.take (b.length - 2)) % 256)) && (b.getD (b.length - 2+1) 0 == UInt8.ofNat (chk (b.take (b.length - 2)) / 256)))
theorem strip_iff (b:List UInt8) (h:2≤b.length):stripOk b=true↔withChk (b.take (b.length - 2))=b:=by
  have e:b=b.take (b.length - 2)++[b.getD (b.length - 2) 0,b.getD (b.length - 2+1) 0]:=by
    conv=>lhs;rw [← List.take_append_drop (b.length - 2) b]
    congr 1
    apply List.ext_getElem
    · simp;omega
    · intro i h1 h2
      simp at h2
      match i,h2 with
      | 0,_=>simp [List.getD,show b.length - 2 < b.length from by omega]
      | 1,_=>simp [List.getD,show b.length - 2+1 < b.length from by omega]
  unfold stripOk withChk
  constructor
  · intro hs
    simp only [Bool.and_eq_true,beq_iff_eq] at hs
    rw [← hs.2.1,← hs.2.2];exact e.symm
  · intro hs
    have e2:=hs.trans e
    have e3:=List.append_cancel_left e2
    simp only [List.cons.injEq,and_true] at e3
    simp only [Bool.and_eq_true,decide_eq_true_eq,beq_iff_eq]
    exact ⟨h,e3.1.symm,e3.2.symm⟩
def progR (b:List UInt8):Option Fr :=
  if stripOk b=false then none else if b.length < 8 then none else if parseOk b=false then none else if (parseF b).ok=false then none else some (parseF b)
theorem progR_eq (b:List UInt8):progR b=unpackR b:=by
  unfold progR unpackR
  rcases Nat.lt_or_ge b.length 8 with h | h
  · rw [if_pos h,if_pos (Or.inl h)];split <;> rfl
  · rw [if_neg (show ¬ b.length < 8 by omega)]
    by_cases hk:kindOf b < 1∨9 < kindOf b
    · have hf:(parseF b).ok=false:=by
        rw [Bool.eq_false_iff];intro e
        obtain ⟨h1,h2,_⟩:=Fr.ok_parts e
        have:(parseF b).kind=kindOf b:=rfl
        rw [this] at h1 h2
        omega
      rw [hf,if_pos (Or.inr hk)]
      simp
    · rw [if_neg (show ¬ (b.length < 8∨kindOf b < 1∨9 < kindOf b) by omega)]
      cases hp:parseOk b
      · simp
      · have hb:=parse_body b h hp
        have hs:=strip_iff b (by omega)
        have e:(parseF b).bytes=withChk (b.take (b.length - 2)):=by unfold Fr.bytes;rw [hb]
        rw [e]
        cases ho:(parseF b).ok
        · simp
        · cases hx:stripOk b
          · have:withChk (b.take (b.length - 2))≠b:=fun e=>by rw [hs.2 e] at hx;cases hx
            simp [this]
          · simp [hs.1 hx]
end
end Go.Proofs.YtolififimldmlaaGreat
