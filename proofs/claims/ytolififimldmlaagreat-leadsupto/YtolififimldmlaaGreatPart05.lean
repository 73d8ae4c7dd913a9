import Derived.Test.YtolififimldmlaaGreatPart04
import Derived.Test.YtolififimldmlaaGreatPart03
import Derived.Deep.AppendSrc
set_option linter.unusedVariables false
set_option linter.unusedSimpArgs false
set_option maxRecDepth 100000
set_option maxHeartbeats 16000000
namespace Go.Proofs.YtolififimldmlaaGreat
section
open Go.RowKit
attribute [local go_sem ↓] Go.wp_at_zero Go.wp_at_succ
def Fr.zero:Fr:=⟨0,0,0,0,0,0,Ln.zero,[]⟩
def midOf (b:List UInt8):List UInt8:=(b.drop 6).take (b.length - 2 - 6)
def kindOf (b:List UInt8):Int:=(b.getD 0 0).toNat
def parseF (b:List UInt8):Fr :=
  ⟨kindOf b,(b.getD 1 0).toNat,(b.getD 2 0).toNat,(b.getD 3 0).toNat,(b.getD 4 0).toNat,(b.getD 5 0).toNat,
    if hasB (kindOf b) 49 then tlLine (midOf b) else Ln.zero,if hasB (kindOf b) 110 then tsLines (midOf b) else []⟩
def parseOk (b:List UInt8):Bool :=
  if hasB (kindOf b) 49 then tlOk (midOf b) && (tlRest (midOf b)).isEmpty else if hasB (kindOf b) 110 then tsOk (midOf b) && (tsRest (midOf b)).isEmpty else (midOf b).isEmpty
def unpackR (b:List UInt8):Option Fr :=
  if b.length < 8∨kindOf b < 1∨9 < kindOf b then none else if parseOk b=false then none else if (parseF b).ok=false∨(parseF b).bytes≠b then none else some (parseF b)
def unpackF (b:List UInt8):Fr:=(unpackR b).getD Fr.zero
def unpackE (b:List UInt8):Int:=if (unpackR b).isSome then 0 else 3
theorem un_no {b:List UInt8} (h:unpackR b=none):unpackF b=Fr.zero∧unpackE b=3:=by simp [unpackF,unpackE,h]
theorem un_yes {b:List UInt8} {f:Fr} (h:unpackR b=some f):unpackF b=f∧unpackE b=0:=by simp [unpackF,unpackE,h]
def RetFrame (w:World) (b:List UInt8) (e:Ending) (w':World):Prop :=
  ∃ g c,e=.returned (.tuple #[(unpackF b).val (g.map fun k=>(⟨k,0,none⟩:Addr)) c,.int .i64 (unpackE b)])∧OwnLines w w' g c (unpackF b).lines∧Below w.heap.size w w'
theorem ret_zero {w w':World} {b:List UInt8} (h:unpackR b=none) (hb:Below w.heap.size w w') :
    RetFrame w b (.returned (.tuple #[.agg #[.int .i64 0,.int .i64 0,.int .i64 0,.int .i64 0,.int .i64 0,.int .i64 0,.int .i64 0,.int .i64 0,.string ⟨#[]⟩,.slice none 0 0],.int .i64 3])) w':=by
  obtain ⟨e1,e2⟩:=un_no h
  refine ⟨none,0,?_,?_,hb⟩
  · rw [e1,e2];rfl
  · rw [e1];exact ⟨fun j hj=>absurd hj (by simp [Fr.zero]),.inl ⟨rfl,rfl,rfl⟩,fun k e=>by cases e⟩
theorem refUnpack_short (b:List UInt8) (w:World) (hn:b.length≤100000000) (h:b.length < 8∨kindOf b < 1∨9 < kindOf b) :
    Calls Tryz.prog 97 #[.string ⟨b.toArray⟩] w (RetFrame w b):=by
  have HN:Hid (unpackR b=none):=by show _=_;unfold unpackR;rw [if_pos h]
  rcases Nat.lt_or_ge b.length 8 with h8 | h8
  · clear h
    go_enter Tryz.func97,Tryz.ntmps97
    go_wp2
    exact bodyPost_ret (v:=.tuple #[.agg #[.int .i64 0,.int .i64 0,.int .i64 0,.int .i64 0,.int .i64 0,.int .i64 0,.int .i64 0,.int .i64 0,.string ⟨#[]⟩,.slice none 0 0],.int .i64 3]) (by simp [results,Tryz.results97,go_sem]) rfl (ret_zero HN.out (by first | exact (((Below.refl _ _).alloc (Nat.le_refl _) _).alloc (by simp) _) | skip))
  · have i0:∀ h,(⟨b.toArray⟩:ByteArray)[0]'h=b.getD 0 0:=fun h=>by rw [getD_at b 0 0 (by omega)];rfl
    unfold kindOf at h
    generalize b.getD 0 0=z at i0 h
    have hz:z.toNat < 256:=z.toNat_lt
    rcases Nat.lt_or_ge z.toNat 1 with h1 | h1
    · clear h
      go_enter Tryz.func97,Tryz.ntmps97
      go_wp2
      exact bodyPost_ret (v:=.tuple #[.agg #[.int .i64 0,.int .i64 0,.int .i64 0,.int .i64 0,.int .i64 0,.int .i64 0,.int .i64 0,.int .i64 0,.string ⟨#[]⟩,.slice none 0 0],.int .i64 3]) (by simp [results,Tryz.results97,go_sem]) rfl (ret_zero HN.out (((Below.refl _ _).alloc (Nat.le_refl _) _).alloc (by simp) _))
    · have h9:9 < z.toNat:=by omega
      clear h
      go_enter Tryz.func97,Tryz.ntmps97
      go_wp2
      exact bodyPost_ret (v:=.tuple #[.agg #[.int .i64 0,.int .i64 0,.int .i64 0,.int .i64 0,.int .i64 0,.int .i64 0,.int .i64 0,.int .i64 0,.string ⟨#[]⟩,.slice none 0 0],.int .i64 3]) (by simp [results,Tryz.results97,go_sem]) rfl (ret_zero HN.out (((Below.refl _ _).alloc (Nat.le_refl _) _).alloc (by simp) _))
end
section
theorem byteOf_u8 (x:UInt8):byteOf (x.toNat:Int)=x:=by
  have h:=x.toNat_lt
  unfold byteOf
  apply UInt8.toNat_inj.1
  rw [UInt8.toNat_ofNat'];omega
theorem takeLine_bytes {r:List UInt8} {l:Ln} {r':List UInt8} (h:takeLine r=some (l,r')):lineBytes l++r'=r:=by
  unfold takeLine at h
  split at h
  · cases h
  · rename_i h3
    split at h
    · cases h
    · rename_i h4
      simp only [Option.some.injEq,Prod.mk.injEq] at h
      obtain ⟨rfl,rfl⟩:=h
      match r,h3 with
      | a :: b :: c :: t,_ =>
        simp only [List.length_cons,List.getD_cons_succ,List.getD_cons_zero] at h4 ⊢
        have e:3+c.toNat=c.toNat+1+1+1:=by omega
        rw [e]
        simp only [lineBytes,byteOf_u8,List.drop_succ_cons,List.drop_zero,List.cons_append,List.nil_append]
        rw [List.length_take,Nat.min_eq_left (by omega),byteOf_u8,List.take_append_drop]
      | [],h=>simp at h
      | [_],h=>simp at h
      | [_,_],h=>simp at h
theorem takeN_bytes {b:List UInt8}:∀ {k:Nat} {ls:List Ln} {r:List UInt8},takeN b k=some (ls,r)→ls.length=k∧manyBytes ls++r=b:=by
  intro k
  induction k with
  | zero=>intro ls r h;cases h;exact ⟨rfl,rfl⟩
  | succ k ih =>
    intro ls r h
    cases e:takeN b k with
    | none=>exact absurd h (by show (takeN b k).bind _≠_;rw [e];simp)
    | some p =>
      obtain ⟨ls0,r0⟩:=p
      rw [takeN_step b k ls0 r0 e] at h
      obtain ⟨i1,i2⟩:=ih e
      cases e2:takeLine r0 with
      | none=>rw [e2] at h;cases h
      | some q =>
        obtain ⟨l,r1⟩:=q
        rw [e2] at h
        simp only [Option.map_some,Option.some.injEq,Prod.mk.injEq] at h
        obtain ⟨rfl,rfl⟩:=h
        refine ⟨by simp [i1],?_⟩
        rw [manyBytes_snoc,List.append_assoc,takeLine_bytes e2,i2]
theorem takeLines_bytes {b:List UInt8} {ls:List Ln} {r:List UInt8} (h:takeLines b=some (ls,r)):linesBytes ls++r=b:=by
  unfold takeLines at h
  split at h
  · cases h
  · rename_i h0
    obtain ⟨i1,i2⟩:=takeN_bytes h
    match b,h0 with
    | x :: t,_ =>
      simp only [List.getD_cons_zero,List.drop_succ_cons,List.drop_zero] at i1 i2
      unfold linesBytes
      rw [i1,byteOf_u8,List.cons_append,i2]
    | [],h=>exact absurd rfl h
theorem head_bytes (b:List UInt8) (h:8≤b.length):(parseF b).head=b.take 6:=by
  match b,h with
  | a :: b :: c :: d :: e :: f :: t,_=>simp [Fr.head,parseF,kindOf,byteOf_u8]
  | [],h | [_],h | [_,_],h | [_,_,_],h | [_,_,_,_],h | [_,_,_,_,_],h=>simp at h
theorem mid_split (b:List UInt8) (h:8≤b.length):b.take 6++midOf b=b.take (b.length - 2):=by
  unfold midOf
  have e:b.length - 2=6+(b.length - 2 - 6):=by omega
  conv=>rhs;rw [e,List.take_add]
theorem parse_body (b:List UInt8) (h:8≤b.length) (hp:parseOk b=true):(parseF b).body=b.take (b.length - 2):=by
  unfold Fr.body
  rw [head_bytes b h,← mid_split b h,List.append_assoc]
  congr 1
  show (if hasB (kindOf b) 49 then lineBytes (parseF b).line else [])++(if hasB (kindOf b) 110 then linesBytes (parseF b).lines else [])=midOf b
  unfold parseOk at hp
  cases h49:hasB (kindOf b) 49
  · rw [h49] at hp
    cases h110:hasB (kindOf b) 110
    · rw [h110] at hp
      simp only [Bool.false_eq_true,if_false,List.isEmpty_iff] at hp ⊢
      rw [hp];rfl
    · rw [h110] at hp
      simp only [Bool.false_eq_true,if_false,if_true,Bool.and_eq_true,List.isEmpty_iff] at hp ⊢
      have e:(parseF b).lines=tsLines (midOf b):=by simp [parseF,h110]
      rw [e,List.nil_append]
      cases e2:takeLines (midOf b) with
      | none=>simp [tsOk,e2] at hp
      | some q =>
        obtain ⟨ls,r⟩:=q
        have h2:=takeLines_bytes e2
        simp only [tsRest,tsLines,e2,Option.map_some,Option.getD_some] at hp ⊢
        rw [hp.2,List.append_nil] at h2
        exact h2
  · have h110:hasB (kindOf b) 110=false:=by
      cases h:hasB (kindOf b) 110
      · rfl
      · exact absurd ⟨h49,h⟩ (no_both _)
    rw [h49] at hp
    rw [h110]
    simp only [Bool.false_eq_true,if_false,if_true,Bool.and_eq_true,List.isEmpty_iff] at hp ⊢
    have e:(parseF b).line=tlLine (midOf b):=by simp [parseF,h49]
    rw [e,List.append_nil]
    cases e2:takeLine (midOf b) with
    | none=>simp [tlOk,e2] at hp
    | some q =>
      obtain ⟨l,r⟩:=q
      have h2:=takeLine_bytes e2
      simp only [tlRest,tlLine,e2,Option.map_some,Option.getD_some] at hp ⊢
      rw [hp.2,List.append_nil] at h2
      exact h2
def stripOk (b:List UInt8):Bool :=
  decide (2≤b.length) && ((b.getD (b.length - 2) 0 == UInt8.ofNat (chk (b.take (b.length - 2)) % 256)) && (b.getD (b.length - 2+1) 0 == UInt8.ofNat (chk (b.take (b.length - 2)) / 256)))
theorem strip_iff (b:List UInt8) (h:2≤b.length):stripOk b=true↔withChk (b.take (b.length - 2))=b:=by
  have e:b=b.take (b.length - 2)++[b.getD (b.length - 2) 0,b.getD (b.length - 2+1) 0]:=by
    conv=>lhs;rw [← List.take_append_drop (b.length - 2) b]
    congr 1
    apply List.ext_getElem
    · simp;omega
    · intro i h1 h2
      simp at h2
      match i,h2 with
      | 0,_=>simp [List.getD,show b.length - 2 < b.length from by omega]
      | 1,_=>simp [List.getD,show b.length - 2+1 < b.length from by omega]
  unfold stripOk withChk
  constructor
  · intro hs
    simp only [Bool.and_eq_true,beq_iff_eq] at hs
    rw [← hs.2.1,← hs.2.2];exact e.symm
  · intro hs
    have e2:=hs.trans e
    have e3:=List.append_cancel_left e2
    simp only [List.cons.injEq,and_true] at e3
    simp only [Bool.and_eq_true,decide_eq_true_eq,beq_iff_eq]
    exact ⟨h,e3.1.symm,e3.2.symm⟩
def progR (b:List UInt8):Option Fr :=
  if stripOk b=false then none else if b.length < 8 then none else if parseOk b=false then none else if (parseF b).ok=false then none else some (parseF b)
theorem progR_eq (b:List UInt8):progR b=unpackR b:=by
  unfold progR unpackR
  rcases Nat.lt_or_ge b.length 8 with h | h
  · rw [if_pos h,if_pos (Or.inl h)];split <;> rfl
  · rw [if_neg (show ¬ b.length < 8 by omega)]
    by_cases hk:kindOf b < 1∨9 < kindOf b
    · have hf:(parseF b).ok=false:=by
        rw [Bool.eq_false_iff];intro e
        obtain ⟨h1,h2,_⟩:=Fr.ok_parts e
        have:(parseF b).kind=kindOf b:=rfl
        rw [this] at h1 h2
        omega
      rw [hf,if_pos (Or.inr hk)]
      simp
    · rw [if_neg (show ¬ (b.length < 8∨kindOf b < 1∨9 < kindOf b) by omega)]
      cases hp:parseOk b
      · simp
      · have hb:=parse_body b h hp
        have hs:=strip_iff b (by omega)
        have e:(parseF b).bytes=withChk (b.take (b.length - 2)):=by unfold Fr.bytes;rw [hb]
        rw [e]
        cases ho:(parseF b).ok
        · simp
        · cases hx:stripOk b
          · have:withChk (b.take (b.length - 2))≠b:=fun e=>by rw [hs.2 e] at hx;cases hx
            simp [this]
          · simp [hs.1 hx]
structure Mm where
  view:Int
  last:Int
  ls:List Ln
def Mm.zero:Mm:=⟨0,0,[]⟩
def candM (m:Mm) (body:List UInt8):Option Mm :=
  if body.length=0 then none
  else if (body.getD 0 0).toNat=1 then (if tlOk (body.drop 1) && (tlRest (body.drop 1)).isEmpty then some ⟨m.view,m.last,m.ls++[tlLine (body.drop 1)]⟩ else none)
  else if (body.getD 0 0).toNat=2 then (if body.length=2 then some ⟨(body.getD 1 0).toNat,m.last,m.ls⟩ else none)
  else if (body.getD 0 0).toNat=3 then (if body.length < 2 then none else if tsOk (body.drop 2) && (tsRest (body.drop 2)).isEmpty then some ⟨(body.getD 1 0).toNat,(body.getD 1 0).toNat,tsLines (body.drop 2)⟩ else none)
  else none
def okM (m:Mm):Bool:=decide (m.last≤m.view) && decide (m.view≤100) && linesOk m.ls
def doesM (m:Mm) (body:List UInt8):Option Mm:=(candM m body).bind fun n=>if okM n then some n else none
def recOf (b:List UInt8):Option (List UInt8 × Nat) :=
  if b.length=0 then none else if b.length < (b.getD 0 0).toNat+3 then none else if stripOk (b.take ((b.getD 0 0).toNat+3)) then some ((b.drop 1).take (b.getD 0 0).toNat,(b.getD 0 0).toNat+3) else none
def readF (s:List UInt8):Nat→Mm→Nat→Mm × Nat
  | 0,m,at_=>(m,at_)
  | f+1,m,at_=>match recOf (s.drop at_) with
    | none=>(m,at_)
    | some p=>match doesM m p.1 with
      | none=>(m,at_)
      | some m'=>readF s f m' (at_+p.2)
def readD (s:List UInt8):Mm × Nat:=readF s (s.length+1) Mm.zero 0
theorem readF_stop {s:List UInt8} {m:Mm} {at_:Nat} (h:recOf (s.drop at_)=none) (f:Nat):readF s f m at_=(m,at_):=by
  cases f with
  | zero=>rfl
  | succ f=>unfold readF;rw [h]
theorem readF_no {s:List UInt8} {m:Mm} {at_:Nat} {p:List UInt8 × Nat} (h:recOf (s.drop at_)=some p) (hd:doesM m p.1=none) (f:Nat):readF s f m at_=(m,at_):=by
  cases f with
  | zero=>rfl
  | succ f=>unfold readF;rw [h];simp only;rw [hd]
theorem recOf_len {b:List UInt8} {p:List UInt8 × Nat} (h:recOf b=some p):3≤p.2∧p.2≤b.length:=by
  unfold recOf at h
  split at h
  · cases h
  · split at h
    · cases h
    · split at h
      · cases h;dsimp only;omega
      · cases h
theorem readF_step {s:List UInt8} {m m':Mm} {at_ f:Nat} {p:List UInt8 × Nat} (hf:s.length+1≤f+at_) (h:recOf (s.drop at_)=some p) (hd:doesM m p.1=some m') :
    ∃ f',readF s f m at_=readF s f' m' (at_+p.2)∧s.length+1≤f'+(at_+p.2):=by
  have hl:=recOf_len h
  rw [List.length_drop] at hl
  cases f with
  | zero=>omega
  | succ f =>
    refine ⟨f,?_,by omega⟩
    conv=>lhs;unfold readF
    rw [h];simp only;rw [hd]
theorem readF_le {s:List UInt8}:∀ (f:Nat) (m:Mm) (at_:Nat),at_≤s.length→(readF s f m at_).2≤s.length:=by
  intro f
  induction f with
  | zero=>intro m at_ h;exact h
  | succ f ih =>
    intro m at_ h
    unfold readF
    split
    · exact h
    · rename_i p hp
      have hl:=recOf_len hp
      rw [List.length_drop] at hl
      split
      · exact h
      · exact ih _ _ (by omega)
theorem readD_le (s:List UInt8):(readD s).2≤s.length:=readF_le _ _ _ (Nat.zero_le _)
theorem doesM_ok {m m':Mm} {b:List UInt8} (h:doesM m b=some m'):okM m'=true:=by
  unfold doesM at h
  cases e:candM m b with
  | none=>rw [e] at h;cases h
  | some n =>
    rw [e] at h
    simp only [Option.bind_some] at h
    split at h
    · cases h;assumption
    · cases h
theorem okM_len {m:Mm} (h:okM m=true):m.ls.length≤20:=by
  unfold okM at h
  simp only [Bool.and_eq_true] at h
  exact (linesOk_all h.2).1
end
section
open Go.RowKit
def BytesAt (w:World) (g:Option Nat) (l:List UInt8):Prop:=∀ j (h:j < l.length),∃ k,g=some k∧w.cell? ⟨k,j,none⟩=some (.int .u8 l[j].toNat)
section
variable {P:Program} (w:World)
theorem run_appS (t tx ty:TypeId) (e:TypeId) (i:TypeInfo) (z:Value) (size bytes:Nat) (ht:P.underlying t=some (.slice e)) (hi:P.info? e=some i) (hz:i.zero=some z)
    (hsize:i.size=size) (hby:i.bytes=bytes) (hzs:z.cells.size=size)
    (g n c:Nat) (hown:OwnRow w e size (some g) n c) (x:Value) (m:Nat) (news:List Value) (hs:Src P size tx x m news w)
    (hbytes:(n+m) * bytes≤140737488355328) (h63:n+m≤140737488355328) :
    ∃ g' c' w',(Builtin.append_ #[t,tx] ty #[.slice (some ⟨g,0,none⟩) n c,x]).run P w=.ok (.slice (some ⟨g',0,none⟩) (n+m) c') w'∧AppPost w w' e size (some g) n m news g' c':=by
  subst hsize
  subst hby
  have hmx:n+m≤maxLen:=by simp only [maxLen];omega
  have hl:=hs.newsLen
  rcases hown with ⟨h,_⟩ | ⟨g0,cur,h,hg,hcs,hnc,hcm⟩
  · cases h
  cases h
  by_cases hroom:n+m≤c
  · have hns:n * i.size+news.length=(n+m) * i.size:=by rw [hl,← Nat.add_mul]
    have hfit:n * i.size+news.length≤cur.size:=by rw [hns,hcs];exact Nat.mul_le_mul_right _ hroom
    have hst:=run_storeCells_at P g (n * i.size) e news 0 cur w hg (by simpa using hfit) hs.one
    simp only [Nat.add_zero] at hst
    have hr:(Builtin.append_ #[t,tx] ty #[.slice (some ⟨g,0,none⟩) n c,x]).run P w=.ok (.slice (some ⟨g,0,none⟩) (n+m) c) (w.setRow g (cur.toList.take (n * i.size)++news++cur.toList.drop (n * i.size+news.length)).toArray):=by
      rcases hs.kind with ⟨e',hk⟩ | hk <;> simp [Builtin.append_,run_underlying ht,run_underlying hk,sizeOf,typeInfo,hi,hs.len,hroom,hs.cells,Addr.add_lit,hst]
    have hsr:=setRow_heap w g cur (cur.toList.take (n * i.size)++news++cur.toList.drop (n * i.size+news.length)).toArray e (0,0) hg
    have htl:(cur.toList.take (n * i.size)).length=n * i.size:=by rw [List.length_take,Array.length_toList];omega
    have hold:∀ j,j < n * i.size→(cur.toList.take (n * i.size)++news++cur.toList.drop (n * i.size+news.length)).toArray[j]?=cur[j]?:=fun j hj=>by
      simp only [List.getElem?_toArray]
      rw [List.getElem?_append_left (by simp only [List.length_append,htl];omega),List.getElem?_append_left (by omega),List.getElem?_take_of_lt hj,Array.getElem?_toList]
    refine ⟨g,c,_,hr,⟨.inr ⟨g,_,rfl,hsr,?_,hroom,hcm⟩,fun j hj=>?_,fun j hj k hk=>?_,fun k j hk hn=>?_,⟨rfl,rfl,rfl,by simp [World.setRow],fun k _ hk=>setRow_other w g k _ (fun e=>hk (by rw [e]))⟩,.inl rfl⟩⟩
    · simp only [List.size_toArray,List.length_append,List.length_drop,htl,Array.length_toList];omega
    · rw [cell_of_heap hsr]
      simp only [List.getElem?_toArray]
      rw [List.getElem?_append_left (by simp only [List.length_append,htl];omega),List.getElem?_append_right (by omega),htl]
      congr 1;omega
    · cases hk
      rw [cell_of_heap hsr,cell_of_heap hg];exact hold j hj
    · by_cases hkg:k=g
      · subst hkg
        rw [cell_of_heap hsr,cell_of_heap hg];exact hold j (by rcases Nat.lt_or_ge j (n * i.size) with h | h;exact h;exact absurd ⟨rfl,h⟩ hn)
      · exact World.cell?_of_block (setRow_other w g k _ hkg)
  · have hxl:(cur.toList.take (n * i.size)).length=n * i.size:=by
      rw [List.length_take,Array.length_toList,hcs];have:=Nat.mul_le_mul_right i.size hnc;omega
    have hxs:∀ j,j < n * i.size→(cur.toList.take (n * i.size))[j]?=w.cell? ⟨g,j,none⟩:=fun j hj=>by
      rw [cell_of_heap hg,List.getElem?_take_of_lt hj,Array.getElem?_toList]
    have holds:∀ j u,(cur.toList.take (n * i.size))[j]?=some u→w.drew.cell? ((⟨g,0,none⟩:Addr).add j)=some u:=fun j u hu=>by
      have hj:j < n * i.size:=by
        rcases Nat.lt_or_ge j (n * i.size) with h | h
        · exact h
        · rw [List.getElem?_eq_none (by omega)] at hu;cases hu
      rw [addr_add,Nat.zero_add]
      exact (hxs j hj).symm.trans hu
    have hf:=run_firstCells_some (P:=P) w.drew i.size n ⟨g,0,none⟩ n c _ hxl holds
    have hr:=run_append_grow_src (P:=P) w t tx ty e i z ht hi hz (some ⟨g,0,none⟩) n c _ hf x m news hs (by omega) (by omega) (growslice_fits (by omega) hbytes)
    have hge:=grownCap_ge w (n+m) c e
    have hcm:grownCap w (n+m) c e≤maxLen:=grownCap_le_maxLen w (n+m) c e hmx
    have hnew:=heap_alloc_new w.drew (.cells (((cur.toList.take (n * i.size))++news).toArray++Builtin.zeroCells z.cells (grownCap w (n+m) c e - (n+m))) e)
    refine ⟨_,_,_,hr,⟨.inr ⟨_,_,rfl,hnew,?_,hge,hcm⟩,fun j hj=>?_,fun j hj k hk=>?_,fun k j hk _=>?_,((Touch.refl _ w).drew).alloc _,.inr (Nat.le_refl _)⟩⟩
    · simp only [Array.size_append,List.size_toArray,List.length_append,size_zeroCells,hzs,hxl,hl,← Nat.add_mul]
      congr 1
      omega
    · have h0:=cell_of_heap hnew (n * i.size+j)
      refine h0.trans ?_
      rw [Array.getElem?_append_left (by rw [List.size_toArray,List.length_append,hxl];omega),List.getElem?_toArray,List.getElem?_append_right (by omega),hxl]
      congr 1;omega
    · have h0:=cell_of_heap hnew j
      refine h0.trans ?_
      rw [Array.getElem?_append_left (by rw [List.size_toArray,List.length_append,hxl];omega),List.getElem?_toArray,List.getElem?_append_left (by omega)]
      cases hk
      exact hxs j hj
    · exact World.cell?_alloc_past (w:=w.drew) _ _ _ hk
theorem wp_appS {o:Oper} {a:Act} {K:Act→World→Prop} {Q:Exit→Act→World→Prop} (s y:Operand) (t tx:TypeId)
    (ho:o.op=.call { callee:=.builtin .append,args:=#[s,y],argTypes:=#[t,tx] })
    (e:TypeId) (i:TypeInfo) (z:Value) (size bytes:Nat) (ht:P.underlying t=some (.slice e)) (hi:P.info? e=some i) (hz:i.zero=some z)
    (hsize:i.size=size) (hby:i.bytes=bytes) (hzs:z.cells.size=size)
    (g n c:Nat) (hq:a.eval s=.slice (some ⟨g,0,none⟩) n c) (hown:OwnRow w e size (some g) n c)
    (x:Value) (hx:a.eval y=x) (m:Nat) (news:List Value) (hs:Src P size tx x m news w)
    (hbytes:(n+m) * bytes≤140737488355328) (h63:n+m≤140737488355328)
    (h:∀ g' c' w',AppPost w w' e size (some g) n m news g' c'→K (a.put o.dst (.slice (some ⟨g',0,none⟩) (n+m) c')) w'):o.wp P a w K Q:=by
  obtain ⟨g',c',w',hr,h2⟩:=run_appS (P:=P) w t tx o.type e i z size bytes ht hi hz hsize hby hzs g n c hown x m news hs hbytes h63
  unfold Oper.wp execOp
  simp only [ho,resolve,invoke,builtin,Sem.run_bind,Sem.run_pure,Result.andThen_ok,List.map_toArray,List.map_cons,List.map_nil,hq,hx,hr]
  exact h g' c' w' h2
theorem wpList_appS {ops:Array Oper} {rest:List Oper} {o:Oper} {a:Act} {Q:Exit→Act→World→Prop} (hgd:o.guard=none) (s y:Operand) (t tx:TypeId)
    (ho:o.op=.call { callee:=.builtin .append,args:=#[s,y],argTypes:=#[t,tx] })
    (e:TypeId) (i:TypeInfo) (z:Value) (size bytes:Nat) (ht:P.underlying t=some (.slice e)) (hi:P.info? e=some i) (hz:i.zero=some z)
    (hsize:i.size=size) (hby:i.bytes=bytes) (hzs:z.cells.size=size)
    (g n c:Nat) (hq:a.eval s=.slice (some ⟨g,0,none⟩) n c) (hown:OwnRow w e size (some g) n c)
    (x:Value) (hx:a.eval y=x) (m:Nat) (news:List Value) (hs:Src P size tx x m news w)
    (hbytes:(n+m) * bytes≤140737488355328) (h63:n+m≤140737488355328)
    (h:∀ g' c' w',AppPost w w' e size (some g) n m news g' c'→wpList P ops Q rest (a.put o.dst (.slice (some ⟨g',0,none⟩) (n+m) c')) w'):wpList P ops Q (o :: rest) a w :=
  wpList_plain hgd fun _ hK=>wp_appS w s y t tx ho e i z size bytes ht hi hz hsize hby hzs g n c hq hown x hx m news hs hbytes h63 fun g' c' w' h2=>hK _ _ (h g' c' w' h2)
end
structure NilPost (w w':World) (e:TypeId) (size:Nat) (m:Nat) (news:List Value) (b:Option Nat) (c:Nat):Prop where
  own:OwnRow w' e size b m c
  new:∀ j,j < m * size→∃ g,b=some g∧w'.cell? ⟨g,j,none⟩=news[j]?
  fresh:∀ g,b=some g→w.heap.size≤g
  below:Below w.heap.size w w'
section
variable {P:Program} (w:World)
theorem run_appN (t tx ty:TypeId) (e:TypeId) (i:TypeInfo) (z:Value) (size bytes:Nat) (ht:P.underlying t=some (.slice e)) (hi:P.info? e=some i) (hz:i.zero=some z)
    (hsize:i.size=size) (hby:i.bytes=bytes) (hzs:z.cells.size=size) (x:Value) (m:Nat) (news:List Value) (hs:Src P size tx x m news w)
    (hbytes:m * bytes≤140737488355328) (h63:m≤140737488355328) :
    ∃ b c w',(Builtin.append_ #[t,tx] ty #[.slice none 0 0,x]).run P w=.ok (sl b m c) w'∧NilPost w w' e size m news b c:=by
  subst hsize
  subst hby
  have hl:=hs.newsLen
  rcases Nat.eq_zero_or_pos m with hm | hm
  · subst hm
    have hn0:news=[]:=by cases news with | nil=>rfl | cons a l=>simp at hl
    subst hn0
    refine ⟨none,0,w,?_,⟨.inl ⟨rfl,rfl,rfl⟩,fun j hj=>(by omega),fun g e=>(by cases e),Below.refl _ _⟩⟩
    rcases hs.kind with ⟨e',hk⟩ | hk <;> simp [Builtin.append_,run_underlying ht,run_underlying hk,sizeOf,typeInfo,hi,hs.len,hs.cells,storeCells,sl]
  · have hmx:m≤maxLen:=by simp only [maxLen];omega
    have hr:=run_append_grow_src (P:=P) w t tx ty e i z ht hi hz none 0 0 [] (run_firstCells_none w.drew i.size 0 0 0) x m news hs (by omega) (by omega) (growslice_fits (by omega) (by simpa using hbytes))
    simp only [Nat.zero_add,List.nil_append] at hr
    have hge:=grownCap_ge w m 0 e
    have hcm:grownCap w m 0 e≤maxLen:=grownCap_le_maxLen w m 0 e hmx
    have hnew:=heap_alloc_new w.drew (.cells (news.toArray++Builtin.zeroCells z.cells (grownCap w m 0 e - m)) e)
    refine ⟨some w.heap.size,_,_,hr,⟨.inr ⟨_,_,rfl,hnew,?_,hge,hcm⟩,fun j hj=>⟨_,rfl,?_⟩,fun g e=>(by cases e;exact Nat.le_refl _),((Below.refl _ w).drew).alloc (Nat.le_refl _) _⟩⟩
    · simp only [Array.size_append,List.size_toArray,size_zeroCells,hzs,hl,← Nat.add_mul]
      congr 1
      omega
    · have h0:=cell_of_heap hnew j
      refine h0.trans ?_
      rw [Array.getElem?_append_left (by rw [List.size_toArray];omega),List.getElem?_toArray]
theorem wpList_appN {ops:Array Oper} {rest:List Oper} {o:Oper} {a:Act} {Q:Exit→Act→World→Prop} (hgd:o.guard=none) (s y:Operand) (t tx:TypeId)
    (ho:o.op=.call { callee:=.builtin .append,args:=#[s,y],argTypes:=#[t,tx] })
    (e:TypeId) (i:TypeInfo) (z:Value) (size bytes:Nat) (ht:P.underlying t=some (.slice e)) (hi:P.info? e=some i) (hz:i.zero=some z)
    (hsize:i.size=size) (hby:i.bytes=bytes) (hzs:z.cells.size=size)
    (hq:a.eval s=.slice none 0 0) (x:Value) (hx:a.eval y=x) (m:Nat) (news:List Value) (hs:Src P size tx x m news w)
    (hbytes:m * bytes≤140737488355328) (h63:m≤140737488355328)
    (h:∀ b c w',NilPost w w' e size m news b c→wpList P ops Q rest (a.put o.dst (sl b m c)) w'):wpList P ops Q (o :: rest) a w:=by
  refine wpList_plain hgd fun _ hK=>?_
  obtain ⟨b,c,w',hr,h2⟩:=run_appN (P:=P) w t tx o.type e i z size bytes ht hi hz hsize hby hzs x m news hs hbytes h63
  unfold Oper.wp execOp
  simp only [ho,resolve,invoke,builtin,Sem.run_bind,Sem.run_pure,Result.andThen_ok,List.map_toArray,List.map_cons,List.map_nil,hq,hx,hr]
  exact hK _ _ (h b c w' h2)
end
end
end Go.Proofs.YtolififimldmlaaGreat
