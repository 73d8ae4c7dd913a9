import Derived.Test.YtolififimldmlaaGreatPart14
import Derived.Test.YtolififimldmlaaGreatPart12
import Derived.Test.YtolififimldmlaaGreatPart15
import Derived.Test.YtolififimldmlaaGreatPart11
set_option linter.unusedVariables false
set_option linter.unusedSimpArgs false
set_option maxRecDepth 100000
set_option maxHeartbeats 16000000
namespace Go.Proofs.YtolififimldmlaaGreat
section
open Go.RowKit
attribute [local go_sem ↓] Go.wp_at_zero Go.wp_at_succ
theorem bit_of (k:Int):(bits .and .i64 (fb k) 32 != 0)=hasB k 49∧(bits .and .i64 (fb k) 64 != 0)=hasB k 110:=by
  by_cases h:1≤k∧k≤9
  · have h9:k=1∨k=2∨k=3∨k=4∨k=5∨k=6∨k=7∨k=8∨k=9:=by omega
    rcases h9 with rfl | rfl | rfl | rfl | rfl | rfl | rfl | rfl | rfl
    all_goals exact ⟨rfl,rfl⟩
  · have e:fb k=0:=by unfold fb;repeat (rw [if_neg (by omega)])
    have e2:fieldStr k=[]:=by unfold fieldStr;repeat (rw [if_neg (by omega)])
    unfold hasB
    rw [e,e2];exact ⟨rfl,rfl⟩
def PackRet (w:World) (f:Fr) (e:Ending) (w':World):Prop :=
  ∃ g c,e=.returned (.tuple #[sl g (packS f).length c,.bool f.ok])∧OwnBytes w w' g c (packS f)∧Below w.heap.size w w'
theorem packRet_no {w w':World} {f:Fr} (h:f.ok=false) (hb:Below w.heap.size w w'):PackRet w f (.returned (.tuple #[.slice none 0 0,.bool false])) w':=by
  have e:packS f=[]:=by simp [packS,h]
  refine ⟨none,0,by rw [e,h];rfl,?_,hb⟩
  rw [e];exact ⟨fun j hj=>absurd hj (by simp),.inl ⟨rfl,rfl,rfl⟩,fun k e=>by cases e⟩
theorem packRet_yes {w W0 w':World} {f:Fr} {g0 g c n:Nat} (h:f.ok=true) (hb:Below w.heap.size w W0) (hg0:w.heap.size≤g0) (G:Grew W0 w' (some g0) g c f.bytes) (hn:n=f.bytes.length) :
    PackRet w f (.returned (.tuple #[.slice (some ⟨g,0,none⟩) n c,.bool true])) w':=by
  have e:packS f=f.bytes:=by simp [packS,h]
  subst hn
  refine ⟨some g,c,by rw [e,h];rfl,?_,hb.trans (G.touch.below hb.size (fun k _ e=>by have:=Option.some.inj e;omega))⟩
  rw [e]
  refine ⟨G.at_,G.own,fun k ek=>?_⟩
  have:=Option.some.inj ek
  rcases G.lies with q | q
  · have:=Option.some.inj q;omega
  · have:=hb.size;omega
theorem right_at (f:Fr) (a:Option Addr) (cap:Nat) (w:World) (hl:LinesAt w a f.lines) (hn:f.lines.length≤100000000) (hcap:f.lines.length≤cap) (v:Value) (hv:v=f.val a cap) :
    Calls Tryz.prog 68 #[v] w fun e w'=>e=.returned (.bool f.ok)∧Below w.heap.size w w':=by subst hv;exact right_go f a cap w hl hn hcap
theorem checkAppend_at (g n c:Nat) (l:List UInt8) (w w0:World) (b:Option Nat) (h:Grew w0 w b g c l) (e:l.length=n) (hn:l.length≤100000) :
    Calls Tryz.prog 72 #[.slice (some ⟨g,0,none⟩) n c] w fun e w'=>∃ g' c',e=.returned (.slice (some ⟨g',0,none⟩) (withChk l).length c')∧Grew w0 w' b g' c' (withChk l):=by
  subst e
  refine (checkAppend_any g c l w h.at_ h.own hn).mono ?_
  rintro e w' ⟨g',c',e1,h2⟩
  exact ⟨g',c',e1,h.trans h2⟩
theorem append_at (g n c:Nat) (l:List UInt8) (a:Option Addr) (cap:Nat) (ls:List Ln) (w w0:World) (b:Option Nat) (h:Grew w0 w b g c l) (e:l.length=n) (hl:LinesAt w a ls) (ha:0 < ls.length→∀ p,a=some p→p.block≠g) (hn:l.length≤100000) (hm:ls.length≤100000) (hs:∀ x ∈ ls,x.s.length≤8) :
    Calls Tryz.prog 71 #[.slice (some ⟨g,0,none⟩) n c,.slice a ls.length cap] w fun e w'=>∃ g' c',e=.returned (.slice (some ⟨g',0,none⟩) (l++linesBytes ls).length c')∧Grew w0 w' b g' c' (l++linesBytes ls):=by
  subst e
  refine (append_any g c l a cap ls w h.at_ h.own hl ha hn hm hs).mono ?_
  rintro e w' ⟨g',c',e1,h2⟩
  exact ⟨g',c',e1,h.trans h2⟩
theorem Box.touch {T:Nat→Prop} {B:Nat} {v0 v1 v2 v3 v4 v5 v6 v7 v8 v9:Value} {x y:World} (h:Box B v0 v1 v2 v3 v4 v5 v6 v7 v8 v9 x) (ht:Touch T x y) (hn:¬ T B):Box B v0 v1 v2 v3 v4 v5 v6 v7 v8 v9 y:=ht.heapAt h hn
theorem grew_head (f:Fr) (w1:World):Grew (w1.alloc (.cells #[.int .u8 (f.kind % 256),.int .u8 (f.frm % 256),.int .u8 (f.view % 256),.int .u8 (f.place % 256),.int .u8 (f.agreed % 256),.int .u8 (f.last % 256)] 5)) (w1.alloc (.cells #[.int .u8 (f.kind % 256),.int .u8 (f.frm % 256),.int .u8 (f.view % 256),.int .u8 (f.place % 256),.int .u8 (f.agreed % 256),.int .u8 (f.last % 256)] 5)) (some w1.heap.size) w1.heap.size 6 f.head:=by
  have hn:=heap_alloc_new w1 (.cells #[.int .u8 (f.kind % 256),.int .u8 (f.frm % 256),.int .u8 (f.view % 256),.int .u8 (f.place % 256),.int .u8 (f.agreed % 256),.int .u8 (f.last % 256)] 5)
  refine Grew.refl (fun j hj=>⟨_,rfl,?_⟩) (.inr ⟨_,_,rfl,hn,rfl,by show 6≤6;omega,by simp only [maxLen];omega⟩)
  rw [cell_of_heap hn]
  have h6:j < 6:=hj
  match j,h6 with
  | 0,_ | 1,_ | 2,_ | 3,_ | 4,_ | 5,_=>simp [Fr.head,byteOf_cell]
theorem framesPack_go (f:Fr) (a:Option Addr) (cap:Nat) (w:World) (hl:LinesAt w a f.lines) (hn:f.lines.length≤100000000) (hcap:f.lines.length≤cap) :
    Calls Tryz.prog 32 #[f.val a cap] w (PackRet w f):=by
  have HL:=hid hl
  have HIF:=hid (fun w1 (h:Below w.heap.size w w1)=>right_go f a cap w1 (HL.out.below h) hn hcap)
  clear hl
  cases hok:f.ok
  · have HO:=hid hok
    clear hok
    have HN:=hid (fun w'=>packRet_no (w:=w) (w':=w') HO.out)
    unfold Fr.val sla at HIF ⊢
    go_enter Tryz.func32,Tryz.ntmps32
    go_wp2_with fail
    refine (HIF.out _ ((Below.refl _ _).alloc (Nat.le_refl _) _)).mono ?_
    rintro e w1 ⟨rfl,hb1⟩
    rw [HO.out]
    go_wp2
    go_ret2
    exact HN.out _ (((Below.refl _ _).alloc (Nat.le_refl _) _).trans (hb1.mono (by simp)))
  · have HO:=hid hok
    have HBL:=hid (Fr.body_len hok)
    obtain ⟨p1,p2,p3,p4,p5,p6⟩:=Fr.ok_parts hok
    have P3:=hid p3
    have P5:=hid p5
    have HBD:Hid (f.body=f.head++(if hasB f.kind 49 then lineBytes f.line else [])++(if hasB f.kind 110 then linesBytes f.lines else [])):=rfl
    have HY:Hid (∀ W0 w' g0 g c n,Below w.heap.size w W0→w.heap.size≤g0→Grew W0 w' (some g0) g c f.bytes→n=f.bytes.length→PackRet w f (.returned (.tuple #[.slice (some ⟨g,0,none⟩) n c,.bool true])) w'):=fun W0 w' g0 g c n h1 h2 h3 h4=>packRet_yes HO.out h1 h2 h3 h4
    have HBY:Hid (f.bytes=withChk f.body):=rfl
    clear hok p1 p2 p3 p4 p5 p6
    obtain ⟨kind,frm,view,place,agreed,last,⟨c,t,s⟩,ls⟩:=f
    unfold Fr.val sla at HIF ⊢
    dsimp only at *
    go_enter Tryz.func32,Tryz.ntmps32
    go_wp2_with fail
    refine (HIF.out _ ((Below.refl _ _).alloc (Nat.le_refl _) _)).mono ?_
    rintro e w1 ⟨rfl,hb1⟩
    rw [HO.out]
    have hz1:w.heap.size < w1.heap.size:=by have:=hb1.size;simp at this;omega
    have HW1:Hid (Below w.heap.size w w1):=((Below.refl _ w).alloc (Nat.le_refl _) _).trans (hb1.mono (by simp))
    have HX1:Hid (Box w.heap.size (.int .i64 kind) (.int .i64 frm) (.int .i64 view) (.int .i64 place) (.int .i64 agreed) (.int .i64 last) (.int .i64 c) (.int .i64 t) (.string ⟨s.toArray⟩) (.slice a ls.length cap) w1):=Box.below (heap_alloc_new w _) hb1
    obtain ⟨s0,s1,s2,s3,s4,s5,s6,s7,s8,s9⟩:=box_cells HX1.out
    clear hb1
    go_wp2_with fail
    refine (fieldsOf_go kind _).mono ?_
    rintro e w2 ⟨rfl,hw2⟩
    rw [hw2]
    clear hw2 w2
    have HBT:=hid (bit_of kind)
    generalize fb kind=F at HBT ⊢
    have HG0:Hid (Grew (w1.alloc (.cells #[.int .u8 (kind % 256),.int .u8 (frm % 256),.int .u8 (view % 256),.int .u8 (place % 256),.int .u8 (agreed % 256),.int .u8 (last % 256)] 5)) (w1.alloc (.cells #[.int .u8 (kind % 256),.int .u8 (frm % 256),.int .u8 (view % 256),.int .u8 (place % 256),.int .u8 (agreed % 256),.int .u8 (last % 256)] 5)) (some w1.heap.size) w1.heap.size 6 (Fr.head ⟨kind,frm,view,place,agreed,last,⟨c,t,s⟩,ls⟩)):=grew_head ⟨kind,frm,view,place,agreed,last,⟨c,t,s⟩,ls⟩ w1
    obtain ⟨W0,hW0⟩:∃ W0:World,W0=w1.alloc (.cells #[.int .u8 (kind % 256),.int .u8 (frm % 256),.int .u8 (view % 256),.int .u8 (place % 256),.int .u8 (agreed % 256),.int .u8 (last % 256)] 5):=⟨_,rfl⟩
    rw [← hW0] at HG0 ⊢
    have HB0:Hid (Below w.heap.size w W0):=by show Below _ _ _;rw [hW0];exact HW1.out.alloc HW1.out.size _
    have HX0:Hid (Box w.heap.size (.int .i64 kind) (.int .i64 frm) (.int .i64 view) (.int .i64 place) (.int .i64 agreed) (.int .i64 last) (.int .i64 c) (.int .i64 t) (.string ⟨s.toArray⟩) (.slice a ls.length cap) W0):=by
      show Box _ _ _ _ _ _ _ _ _ _ _ _
      rw [hW0];exact Box.below HX1.out ((Below.refl _ _).alloc (Nat.le_refl _) _)
    have hg0:w.heap.size < w1.heap.size:=hz1
    clear s0 s1 s2 s3 s4 s5 s6 s7 s8 s9 hW0 HX1 HW1
    generalize w1.heap.size=g0 at *
    have HH6:Hid ((Fr.head ⟨kind,frm,view,place,agreed,last,⟨c,t,s⟩,ls⟩).length=6):=rfl
    generalize Fr.head ⟨kind,frm,view,place,agreed,last,⟨c,t,s⟩,ls⟩=hd at *
    cases h49:hasB kind 49
    · cases h110:hasB kind 110
      · rw [h49,h110] at HBD HBT
        have hb32:(bits .and .i64 F 32 != 0)=false:=HBT.out.1
        have hb64:(bits .and .i64 F 64 != 0)=false:=HBT.out.2
        clear h49 h110
        go_wp2_with fail
        refine (checkAppend_at g0 6 6 hd _ W0 (some g0) HG0.out HH6.out (by have:=HH6.out;omega)).mono ?_
        rintro e w3 ⟨g1,c1,rfl,hG1⟩
        have HG1:=hid hG1
        clear hG1
        have HEQ:Hid (hd=Fr.body ⟨kind,frm,view,place,agreed,last,⟨c,t,s⟩,ls⟩):=by show _=_;rw [HBD.out];simp
        go_wp2
        go_ret2
        exact HY.out W0 _ g0 g1 c1 _ HB0.out (by omega) (by rw [HBY.out,← HEQ.out];exact HG1.out) (by rw [HBY.out,← HEQ.out])
      · have hls:=P5.out h110
        rw [h49,h110] at HBD HBT
        have hb32:(bits .and .i64 F 32 != 0)=false:=HBT.out.1
        have hb64:(bits .and .i64 F 64 != 0)=true:=HBT.out.2
        clear h49 h110
        obtain ⟨n20,hlo⟩:=linesOk_all hls
        have HLO:=hid hlo
        clear hlo hls
        have HA:Hid (0 < ls.length→∀ p,a=some p→p.block≠g0):=fun h0 p e=>by
          obtain ⟨g,o,e2,h1,_⟩:=HL.out 0 h0
          rw [e] at e2
          cases e2
          have:=World.block_lt_of_cell? _ _ h1
          dsimp only at this ⊢
          omega
        obtain ⟨s0,s1,s2,s3,s4,s5,s6,s7,s8,s9⟩:=box_cells HX0.out
        clear s0 s1 s2 s3 s4 s5 s6 s7 s8
        have HEQ:Hid (hd++linesBytes ls=Fr.body ⟨kind,frm,view,place,agreed,last,⟨c,t,s⟩,ls⟩):=by show _=_;rw [HBD.out];simp
        go_wp2_with fail
        refine (append_at g0 6 6 hd a cap ls _ W0 (some g0) HG0.out HH6.out (HL.out.below HB0.out) HA.out (by have:=HH6.out;omega) (by omega) (fun l hl=>Ln.ok_len (HLO.out l hl))).mono ?_
        rintro e w3 ⟨g1,c1,rfl,hG1⟩
        have HG1:=hid hG1
        clear hG1 s9
        go_wp2_with fail
        refine (checkAppend_at g1 _ c1 (hd++linesBytes ls) _ W0 (some g0) HG1.out (by first | rfl | rw [List.length_append] | simp) (by rw [HEQ.out];have:=HBL.out;omega)).mono ?_
        rintro e w4 ⟨g2,c2,rfl,hG2⟩
        have HG2:=hid hG2
        clear hG2
        go_wp2
        go_ret2
        exact HY.out W0 _ g0 g2 c2 _ HB0.out (by omega) (by rw [HBY.out,← HEQ.out];exact HG2.out) (by rw [HBY.out,← HEQ.out])
    · have hlk:=Ln.ok_len (P3.out h49)
      cases h110:hasB kind 110
      · rw [h49,h110] at HBD HBT
        have hb32:(bits .and .i64 F 32 != 0)=true:=HBT.out.1
        have hb64:(bits .and .i64 F 64 != 0)=false:=HBT.out.2
        clear h49 h110
        obtain ⟨s0,s1,s2,s3,s4,s5,s6,s7,s8,s9⟩:=box_cells HX0.out
        clear s0 s1 s2 s3 s4 s5 s9
        have HEQ:Hid (hd++lineBytes ⟨c,t,s⟩=Fr.body ⟨kind,frm,view,place,agreed,last,⟨c,t,s⟩,ls⟩):=by show _=_;rw [HBD.out];simp
        go_wp2_with fail
        refine (appendLine_at g0 6 6 hd ⟨c,t,s⟩ _ W0 (some g0) HG0.out HH6.out (by have:=HH6.out;omega) (by dsimp only at hlk ⊢;omega)).mono ?_
        rintro e w3 ⟨g1,c1,rfl,hG1⟩
        have HG1:=hid hG1
        clear hG1 s6 s7 s8
        go_wp2_with fail
        refine (checkAppend_at g1 _ c1 (hd++lineBytes ⟨c,t,s⟩) _ W0 (some g0) HG1.out (by first | rfl | rw [List.length_append] | simp) (by rw [HEQ.out];have:=HBL.out;omega)).mono ?_
        rintro e w4 ⟨g2,c2,rfl,hG2⟩
        have HG2:=hid hG2
        clear hG2
        go_wp2
        go_ret2
        exact HY.out W0 _ g0 g2 c2 _ HB0.out (by omega) (by rw [HBY.out,← HEQ.out];exact HG2.out) (by rw [HBY.out,← HEQ.out])
      · exact absurd ⟨h49,h110⟩ (no_both kind)
def FirstRet (w0 w:World) (b:List UInt8) (e:Ending) (w':World):Prop :=
  w'=w∧((recOf b=none∧e=.returned (.tuple #[.slice none 0 0,.int .i64 0,.bool false])) ∨
    ∃ inner n a' cap',recOf b=some (inner,n)∧e=.returned (.tuple #[.slice a' inner.length cap',.int .i64 n,.bool true])∧BytesIn w0 a' inner∧inner.length≤cap'∧inner.length≤256)
theorem strip_at2 (a:Option Addr) (n cap:Nat) (b:List UInt8) (w:World) (hb:BytesIn w a b) (e:b.length=n) (hn:b.length≤100000000) (hcap:b.length≤cap) :
    Calls Tryz.prog 73 #[.slice a n cap] w (Stripped w a cap b):=by subst e;exact strip_go a cap b w hb hn hcap
theorem first_go (a:Option Addr) (n cap:Nat) (b:List UInt8) (w0 w:World) (hb:BytesIn w0 a b) (hw:Below w0.heap.size w0 w) (hbl:b.length=n) (hn:b.length≤100000000) (hcap:b.length≤cap) :
    Calls Tryz.prog 129 #[.slice a n cap] w (FirstRet w0 w b):=by
  have HB0:=hid hb
  have HB:=hid (hb.below hw)
  clear hb hw
  have HNO:Hid (recOf b=none→FirstRet w0 w b (.returned (.tuple #[.slice none 0 0,.int .i64 0,.bool false])) w):=fun h=>⟨rfl,.inl ⟨h,rfl⟩⟩
  by_cases h0:n=0
  · have HR:Hid (recOf b=none):=by show _=_;unfold recOf;rw [if_pos (by omega)]
    subst h0
    go_enter Tryz.func129,Tryz.ntmps129
    go_wp2
    go_ret3
    exact HNO.out HR.out
  obtain ⟨g,o,rfl,hx0⟩:=HB.out 0 (by omega)
  clear hx0
  have c0:=HB.out.cell 0 (by omega)
  rw [Nat.add_zero] at c0
  have HZ:Hid (recOf b=if b.length < (b.getD 0 0).toNat+3 then none else if stripOk (b.take ((b.getD 0 0).toNat+3)) then some ((b.drop 1).take (b.getD 0 0).toNat,(b.getD 0 0).toNat+3) else none):=by show _=_;unfold recOf;rw [if_neg (by omega)]
  generalize b.getD 0 0=z at c0 HZ
  have hz:z.toNat < 256:=z.toNat_lt
  have wz:=wrap_byte z
  have hi0:(0:Int) < (n:Int):=by omega
  have hz0:((n:Int) == 0)=false:=beq_eq_false_iff_ne.2 (by omega)
  have hn0:0 < n:=by omega
  have wz1:IntKind.i64.wrap (1+(z.toNat:Int))=1+(z.toNat:Int):=by rw [IntWalk.i64_left,IntWalk.wrap64_in _ (by omega)]
  have wz3:IntKind.i64.wrap (1+(z.toNat:Int)+2)=((z.toNat+3:Nat):Int):=by rw [IntWalk.i64_left,IntWalk.wrap64_in _ (by omega)];omega
  have e3:1+(z.toNat:Int)+2=((z.toNat+3:Nat):Int):=by omega
  rcases Nat.lt_or_ge n (z.toNat+3) with hl | hl
  · have HR:Hid (recOf b=none):=by show _=_;rw [HZ.out,if_pos (by omega)]
    have hl2:(n:Int) < ((z.toNat+3:Nat):Int):=by omega
    go_enter Tryz.func129,Tryz.ntmps129
    go_wp2
    go_ret3
    exact HNO.out HR.out
  · have hl2:¬ ((n:Int) < ((z.toNat+3:Nat):Int)):=by omega
    have HR:Hid (recOf b=if stripOk (b.take (z.toNat+3)) then some ((b.drop 1).take z.toNat,z.toNat+3) else none):=by show _=_;rw [HZ.out,if_neg (by omega)]
    have HT:Hid (BytesIn w (some ⟨g,o,none⟩) (b.take (z.toNat+3))∧(b.take (z.toNat+3)).length=z.toNat+3):=⟨HB.out.take _,by rw [List.length_take];omega⟩
    have hq1:(0:Int)≤((z.toNat+3:Nat):Int):=by omega
    have hq2:((z.toNat+3:Nat):Int)≤(cap:Int):=by omega
    go_enter Tryz.func129,Tryz.ntmps129
    go_wp2_with fail
    refine (strip_at2 _ (z.toNat+3) cap (b.take (z.toNat+3)) _ HT.out.1 HT.out.2 (by have:=HT.out.2;omega) (by have:=HT.out.2;omega)).mono ?_
    rintro e w1 ⟨rfl,hw1⟩
    rw [hw1,HT.out.2,show z.toNat+3 - 2=z.toNat+1 from by omega]
    clear hw1 w1
    cases hs:stripOk (b.take (z.toNat+3))
    · rw [hs] at HR
      simp only [Bool.false_eq_true,if_false]
      go_wp2
      go_ret3
      exact HNO.out HR.out
    · rw [hs] at HR
      have HIL:Hid (((b.drop 1).take z.toNat).length=z.toNat):=by show _=_;rw [List.length_take,List.length_drop];omega
      have HBI:Hid (BytesIn w0 (some ⟨g,o+1,none⟩) ((b.drop 1).take z.toNat)):=(HB0.out.drop 1).take _
      have hc1:¬ cap=1:=by omega
      have hq3:(1:Int)≤((z.toNat+1:Nat):Int):=by omega
      have hq4:(1:Int)≤(cap:Int):=by omega
      have hq5:((z.toNat+1:Nat):Int)≤(cap:Int):=by omega
      simp only [if_true]
      go_wp2
      go_ret3
      refine ⟨rfl,.inr ⟨_,_,_,_,HR.out,?_,HBI.out,by rw [HIL.out];exact Nat.le_sub_of_add_le (show z.toNat+1≤cap by omega),by rw [HIL.out];omega⟩⟩
      rw [HIL.out];rfl
theorem headRet {Q:Ending→World→Prop} {a:Act} {W:World} {B:Nat} {fz:Nat × Nat} {v0 v1 v2 v3 v4 v5 v6 v7 v8 v9:Value} (hB:W.heap[B]?=some (.cells #[v0,v1,v2,v3,v4,v5,v6,v7,v8,v9] 30 fz))
    (ht:a.tmps[2]?=some (.pointer (some ⟨B,0,none⟩))) (hd:a.defers=[]) (hq:Q (.returned (.agg #[v0,v1,v2,v3,v4,v5,v6,v7,v8,v9])) W.drew):bodyPost Tryz.prog Tryz.f74 Q Exit.ret a W.drew:=by
  have c0:W.cell? ⟨B,0,none⟩=some v0:=(cell_of_heap hB 0).trans rfl
  have c1:W.cell? ⟨B,1,none⟩=some v1:=(cell_of_heap hB 1).trans rfl
  have c2:W.cell? ⟨B,2,none⟩=some v2:=(cell_of_heap hB 2).trans rfl
  have c3:W.cell? ⟨B,3,none⟩=some v3:=(cell_of_heap hB 3).trans rfl
  have c4:W.cell? ⟨B,4,none⟩=some v4:=(cell_of_heap hB 4).trans rfl
  have c5:W.cell? ⟨B,5,none⟩=some v5:=(cell_of_heap hB 5).trans rfl
  have c6:W.cell? ⟨B,6,none⟩=some v6:=(cell_of_heap hB 6).trans rfl
  have c7:W.cell? ⟨B,7,none⟩=some v7:=(cell_of_heap hB 7).trans rfl
  have c8:W.cell? ⟨B,8,none⟩=some v8:=(cell_of_heap hB 8).trans rfl
  have c9:W.cell? ⟨B,9,none⟩=some v9:=(cell_of_heap hB 9).trans rfl
  exact bodyPost_ret (v:=.agg #[v0,v1,v2,v3,v4,v5,v6,v7,v8,v9]) (by simp [results,Tryz.results74,go_sem,ht,c0,c1,c2,c3,c4,c5,c6,c7,c8,c9]) hd hq
theorem takeHead_go (g o n cap:Nat) (b:List UInt8) (w:World) (hb:BytesIn w (some ⟨g,o,none⟩) b) (h6:6≤b.length) (e:b.length=n) (hn:n≤100000000) :
    Calls Tryz.prog 74 #[.slice (some ⟨g,o,none⟩) n cap] w fun e w'=>e=.returned (.agg #[.int .i64 (b.getD 0 0).toNat,.int .i64 (b.getD 1 0).toNat,.int .i64 (b.getD 2 0).toNat,.int .i64 (b.getD 3 0).toNat,.int .i64 (b.getD 4 0).toNat,.int .i64 (b.getD 5 0).toNat,.int .i64 0,.int .i64 0,.string ⟨#[]⟩,.slice none 0 0])∧Below w.heap.size w w':=by
  have hg:g < w.heap.size:=World.block_lt_of_cell? _ _ (hb.cell 0 (by omega))
  have hg2:g≠w.heap.size:=by omega
  have c0:=hb.cell 0 (by omega)
  have c1:=hb.cell 1 (by omega)
  have c2:=hb.cell 2 (by omega)
  have c3:=hb.cell 3 (by omega)
  have c4:=hb.cell 4 (by omega)
  have c5:=hb.cell 5 (by omega)
  rw [Nat.add_zero] at c0
  generalize b.getD 0 0=x0 at c0 ⊢
  generalize b.getD 1 0=x1 at c1 ⊢
  generalize b.getD 2 0=x2 at c2 ⊢
  generalize b.getD 3 0=x3 at c3 ⊢
  generalize b.getD 4 0=x4 at c4 ⊢
  generalize b.getD 5 0=x5 at c5 ⊢
  have w0:=wrap_byte x0
  have w1:=wrap_byte x1
  have w2:=wrap_byte x2
  have w3:=wrap_byte x3
  have w4:=wrap_byte x4
  have w5:=wrap_byte x5
  have n00:0 < n:=by omega
  have n0:(0:Int) < (n:Int):=by omega
  have n1:(1:Int) < (n:Int):=by omega
  have n2:(2:Int) < (n:Int):=by omega
  have n3:(3:Int) < (n:Int):=by omega
  have n4:(4:Int) < (n:Int):=by omega
  have n5:(5:Int) < (n:Int):=by omega
  clear hb h6 e
  go_enter Tryz.func74,Tryz.ntmps74
  go_wp2
  generalize hY:w.alloc (.cells #[.int .i64 0,.int .i64 0,.int .i64 0,.int .i64 0,.int .i64 0,.int .i64 0,.int .i64 0,.int .i64 0,.string ⟨#[]⟩,.slice none 0 0] 30)=Y
  have y0:Y.cell? ⟨g,o,none⟩=some (.int .u8 x0.toNat):=by rw [← hY,World.cell?_alloc_past _ _ _ hg];exact c0
  have y1:Y.cell? ⟨g,o+1,none⟩=some (.int .u8 x1.toNat):=by rw [← hY,World.cell?_alloc_past _ _ _ hg];exact c1
  have y2:Y.cell? ⟨g,o+2,none⟩=some (.int .u8 x2.toNat):=by rw [← hY,World.cell?_alloc_past _ _ _ hg];exact c2
  have y3:Y.cell? ⟨g,o+3,none⟩=some (.int .u8 x3.toNat):=by rw [← hY,World.cell?_alloc_past _ _ _ hg];exact c3
  have y4:Y.cell? ⟨g,o+4,none⟩=some (.int .u8 x4.toNat):=by rw [← hY,World.cell?_alloc_past _ _ _ hg];exact c4
  have y5:Y.cell? ⟨g,o+5,none⟩=some (.int .u8 x5.toNat):=by rw [← hY,World.cell?_alloc_past _ _ _ hg];exact c5
  have bY:Box w.heap.size (.int .i64 0) (.int .i64 0) (.int .i64 0) (.int .i64 0) (.int .i64 0) (.int .i64 0) (.int .i64 0) (.int .i64 0) (.string ⟨#[]⟩) (.slice none 0 0) Y:=by rw [← hY];exact heap_alloc_new w _
  obtain ⟨s0,s1,s2,s3,s4,s5,s6,s7,s8,s9⟩:=box_cells bY
  have hf:∀ j,Y.frozen? ⟨w.heap.size,j,none⟩=false:=fun j=>frozen_of_heap bY j
  have BY:=hid bY
  have HBY:Hid (Below w.heap.size w Y):=by show Below _ _ _;rw [← hY];exact (Below.refl _ _).alloc (Nat.le_refl _) _
  clear hY bY c0 c1 c2 c3 c4 c5
  go_still_tail 25,(by kernel_rfl)
  go_wp2
  refine headRet (set10 BY.out rfl _ _ _ _ _ _ _ _ _ _) rfl rfl ⟨rfl,(below10 HBY.out (Nat.le_refl _) _ _ _ _ _ _ _ _ _ _).drew⟩
def tkLine (k:Int) (m:List UInt8):Ln:=if hasB k 49 then tlLine m else Ln.zero
def tkLines (k:Int) (m:List UInt8):List Ln:=if hasB k 110 then tsLines m else []
def tkRest (k:Int) (m:List UInt8):List UInt8:=if hasB k 49 then tlRest m else if hasB k 110 then tsRest m else m
def tkOk (k:Int) (m:List UInt8):Bool:=if hasB k 49 then tlOk m else if hasB k 110 then tsOk m else true
def TookAll (w:World) (P:Nat) (k:Int) (v1 v2 v3 v4 v5:Value) (m:List UInt8) (e:Ending) (w':World):Prop :=
  ∃ a' cap' g c,e=.returned (.tuple #[.slice a' (tkRest k m).length cap',.bool (tkOk k m)]) ∧
    Box P (.int .i64 k) v1 v2 v3 v4 v5 (.int .i64 (tkLine k m).c) (.int .i64 (tkLine k m).t) (.string ⟨(tkLine k m).s.toArray⟩) (.slice (g.map fun x=>⟨x,0,none⟩) (tkLines k m).length c) w' ∧
    OwnLines w w' g c (tkLines k m)∧Touch (fun x=>x=P) w w'
theorem take_at (a:Option Addr) (n cap:Nat) (b:List UInt8) (w0 w:World) (hb:BytesIn w0 a b) (hw:Below w0.heap.size w0 w) (e:b.length=n) (hn:b.length≤100000000) (hcap:b.length≤cap) :
    Calls Tryz.prog 119 #[.slice a n cap] w (TookLines w0 w b):=by subst e;exact take_go a cap b w0 w hb hw hn hcap
theorem takeLines_go (P:Nat) (k:Int) (v1 v2 v3 v4 v5:Value) (a:Option Addr) (n cap:Nat) (m:List UInt8) (w:World)
    (hP:Box P (.int .i64 k) v1 v2 v3 v4 v5 (.int .i64 0) (.int .i64 0) (.string ⟨#[]⟩) (.slice none 0 0) w) (hb:BytesIn w a m) (e:m.length=n) (hn:m.length≤100000000) (hcap:m.length≤cap) :
    Calls Tryz.prog 75 #[.pointer (some ⟨P,0,none⟩),.slice a n cap] w (TookAll w P k v1 v2 v3 v4 v5 m):=by
  have HB:=hid hb
  have HE:=hid e
  have HN:=hid hn
  have HC:=hid hcap
  have HX:=hid hP
  obtain ⟨s0,s1,s2,s3,s4,s5,s6,s7,s8,s9⟩:=box_cells hP
  have hPl:=heap_lt hP
  clear s1 s2 s3 s4 s5 s6 s7 s8 s9 hb e hn hcap hP
  go_enter Tryz.func75,Tryz.ntmps75
  go_wp2_with fail
  refine (fieldsOf_go k _).mono ?_
  rintro e w1 ⟨rfl,hw1⟩
  rw [hw1]
  clear hw1 w1
  have HBT:=hid (bit_of k)
  generalize fb k=F at HBT ⊢
  cases h49:hasB k 49
  · cases h110:hasB k 110
    · have HL:Hid (tkLine k m=Ln.zero∧tkLines k m=[]∧tkRest k m=m∧tkOk k m=true):=by show _∧_;simp [tkLine,tkLines,tkRest,tkOk,h49,h110]
      rw [h49,h110] at HBT
      have hb32:(bits .and .i64 F 32 != 0)=false:=HBT.out.1
      have hb64:(bits .and .i64 F 64 != 0)=false:=HBT.out.2
      clear h49 h110
      go_wp2
      go_ret2
      obtain ⟨l1,l2,l3,l4⟩:=HL.out
      refine ⟨a,cap,none,0,by rw [l3,l4,HE.out];rfl,?_,?_,Touch.refl _ _⟩
      · rw [l1,l2];exact HX.out
      · rw [l2];exact OwnLines.none_ _ _
    · have HL:Hid (tkLine k m=Ln.zero∧tkLines k m=tsLines m∧tkRest k m=tsRest m∧tkOk k m=tsOk m):=by show _∧_;simp [tkLine,tkLines,tkRest,tkOk,h49,h110]
      rw [h49,h110] at HBT
      have hb32:(bits .and .i64 F 32 != 0)=false:=HBT.out.1
      have hb64:(bits .and .i64 F 64 != 0)=true:=HBT.out.2
      clear h49 h110
      go_wp2_with fail
      refine (take_at a n cap m w _ HB.out (Below.refl _ _) HE.out HN.out HC.out).mono ?_
      rintro e w2 ⟨g,c,a',cap',rfl,hol,hbi,hcp,hb2⟩
      have HX2:=hid (Box.below HX.out hb2)
      have HOL:=hid hol
      have HB2:=hid hb2
      obtain ⟨s0',s1,s2,s3,s4,s5,s6,s7,s8,s9⟩:=box_cells HX2.out
      have hf:∀ j,w2.frozen? ⟨P,j,none⟩=false:=fun j=>frozen_of_heap HX2.out j
      have hgP:Hid (g≠some P):=fun e=>by have:=HOL.out.new _ e;omega
      clear s0' s1 s2 s3 s4 s5 s6 s7 s8 hol hbi hcp hb2
      unfold sl sla
      go_wp2
      go_ret2
      obtain ⟨l1,l2,l3,l4⟩:=HL.out
      refine ⟨a',cap',g,c,by rw [l3,l4];rfl,?_,?_,?_⟩
      · rw [l1,l2]
        have h:=heap_setCell HX2.out 9 (.slice (g.map fun x=>⟨x,0,none⟩) (tsLines m).length c)
        simp only [List.setIfInBounds_toArray,List.set_cons_zero,List.set_cons_succ] at h
        exact h
      · rw [l2];exact HOL.out.setOther P 9 _ hgP.out
      · exact (Touch.of_belowAll HB2.out (fun x=>x=P)).setCell (p:=⟨P,9,none⟩) (fun _=>rfl) _
  · have h110:hasB k 110=false:=by
      cases h:hasB k 110
      · rfl
      · exact absurd ⟨h49,h⟩ (no_both _)
    have HL:Hid (tkLine k m=tlLine m∧tkLines k m=[]∧tkRest k m=tlRest m∧tkOk k m=tlOk m):=by show _∧_;simp [tkLine,tkLines,tkRest,tkOk,h49,h110]
    rw [h49,h110] at HBT
    have hb32:(bits .and .i64 F 32 != 0)=true:=HBT.out.1
    have hb64:(bits .and .i64 F 64 != 0)=false:=HBT.out.2
    clear h49 h110
    go_wp2_with fail
    refine (takeLine_at a n cap m w _ HB.out (Below.refl _ _) HE.out HN.out HC.out).mono ?_
    rintro e w2 ⟨a',cap',rfl,hbi,hcp,hb2⟩
    have HX2:=hid (Box.below HX.out hb2)
    have HB2:=hid hb2
    obtain ⟨s0',s1,s2,s3,s4,s5,s6,s7,s8,s9⟩:=box_cells HX2.out
    have hf:∀ j,w2.frozen? ⟨P,j,none⟩=false:=fun j=>frozen_of_heap HX2.out j
    clear s0' s1 s2 s3 s4 s5 s9 hbi hcp hb2
    unfold sla
    go_wp2
    go_ret2
    obtain ⟨l1,l2,l3,l4⟩:=HL.out
    refine ⟨a',cap',none,0,by rw [l3,l4];rfl,?_,?_,?_⟩
    · rw [l1,l2]
      have h:=heap_setCell (heap_setCell (heap_setCell HX2.out 6 (.int .i64 (tlLine m).c)) 7 (.int .i64 (tlLine m).t)) 8 (.string ⟨(tlLine m).s.toArray⟩)
      simp only [List.setIfInBounds_toArray,List.set_cons_zero,List.set_cons_succ] at h
      exact h
    · rw [l2];exact OwnLines.none_ _ _
    · exact (((Touch.of_belowAll HB2.out (fun x=>x=P)).setCell (p:=⟨P,6,none⟩) (fun _=>rfl) _).setCell (p:=⟨P,7,none⟩) (fun _=>rfl) _).setCell (p:=⟨P,8,none⟩) (fun _=>rfl) _
end
end Go.Proofs.YtolififimldmlaaGreat
