import Derived.Test.YtolififimldmlaaGreatPart19
import Derived.Test.YtolififimldmlaaGreatPart29
set_option linter.unusedVariables false
set_option linter.unusedSimpArgs false
set_option maxRecDepth 100000
set_option maxHeartbeats 16000000
namespace Go.Proofs.YtolififimldmlaaGreat
section
open Go.RowKit
attribute [local go_sem ↓] Go.wp_at_zero Go.wp_at_succ
def FrameRet (w:World) (b:List UInt8) (e:Ending) (w':World):Prop :=
  ∃ g c,e=.returned (.tuple #[(unpackF b).val (g.map fun k=>(⟨k,0,none⟩:Addr)) c,.bool (unpackR b).isSome])∧OwnLines w w' g c (unpackF b).lines∧Below w.heap.size w w'
theorem frameRet_no {w w':World} {b:List UInt8} (h:progR b=none) (hb:Below w.heap.size w w') :
    FrameRet w b (.returned (.tuple #[.agg #[.int .i64 0,.int .i64 0,.int .i64 0,.int .i64 0,.int .i64 0,.int .i64 0,.int .i64 0,.int .i64 0,.string ⟨#[]⟩,.slice none 0 0],.bool false])) w':=by
  rw [progR_eq] at h
  obtain ⟨e1,e2⟩:=un_no h
  refine ⟨none,0,?_,?_,hb⟩
  · rw [e1,h];rfl
  · rw [e1];exact OwnLines.none_ _ _
theorem frameRet_yes {w w':World} {b:List UInt8} {f:Fr} {g:Option Nat} {c:Nat} {v:Value} (h:progR b=some f) (hv:v=f.val (g.map fun k=>(⟨k,0,none⟩:Addr)) c) (ho:OwnLines w w' g c f.lines) (hb:Below w.heap.size w w') :
    FrameRet w b (.returned (.tuple #[v,.bool true])) w':=by
  rw [progR_eq] at h
  obtain ⟨e1,e2⟩:=un_yes h
  subst hv
  exact ⟨g,c,by rw [e1,h];rfl,by rw [e1];exact ho,hb⟩
theorem progRet {Q:Ending→World→Prop} {a:Act} {W:World} {B:Nat} {fz:Nat × Nat} {v0 v1 v2 v3 v4 v5 v6 v7 v8 v9:Value} {er:Bool} (hB:W.heap[B]?=some (.cells #[v0,v1,v2,v3,v4,v5,v6,v7,v8,v9] 30 fz))
    (ht:a.tmps[2]?=some (.pointer (some ⟨B,0,none⟩))) (he:a.tmps[3]?=some (.bool er)) (hd:a.defers=[]) (hq:Q (.returned (.tuple #[.agg #[v0,v1,v2,v3,v4,v5,v6,v7,v8,v9],.bool er])) W):bodyPost Tryz.prog Tryz.f33 Q Exit.ret a W:=by
  have c0:W.cell? ⟨B,0,none⟩=some v0:=(cell_of_heap hB 0).trans rfl
  have c1:W.cell? ⟨B,1,none⟩=some v1:=(cell_of_heap hB 1).trans rfl
  have c2:W.cell? ⟨B,2,none⟩=some v2:=(cell_of_heap hB 2).trans rfl
  have c3:W.cell? ⟨B,3,none⟩=some v3:=(cell_of_heap hB 3).trans rfl
  have c4:W.cell? ⟨B,4,none⟩=some v4:=(cell_of_heap hB 4).trans rfl
  have c5:W.cell? ⟨B,5,none⟩=some v5:=(cell_of_heap hB 5).trans rfl
  have c6:W.cell? ⟨B,6,none⟩=some v6:=(cell_of_heap hB 6).trans rfl
  have c7:W.cell? ⟨B,7,none⟩=some v7:=(cell_of_heap hB 7).trans rfl
  have c8:W.cell? ⟨B,8,none⟩=some v8:=(cell_of_heap hB 8).trans rfl
  have c9:W.cell? ⟨B,9,none⟩=some v9:=(cell_of_heap hB 9).trans rfl
  exact bodyPost_ret (v:=.tuple #[.agg #[v0,v1,v2,v3,v4,v5,v6,v7,v8,v9],.bool er]) (by simp [results,Tryz.results33,go_sem,ht,he,c0,c1,c2,c3,c4,c5,c6,c7,c8,c9]) hd hq
theorem strip_at (a:Option Addr) (n cap:Nat) (b:List UInt8) (w:World) (hb:BytesIn w a b) (e:b.length=n) (hn:b.length≤100000000) (hcap:b.length≤cap) :
    Calls Tryz.prog 73 #[.slice a n cap] w (Stripped w a cap b):=by subst e;exact strip_go a cap b w hb hn hcap
theorem mid_len (b:List UInt8):(midOf b).length=b.length - 2 - 6:=by unfold midOf;rw [List.length_take,List.length_drop];omega
theorem BytesIn.mid {w:World} {g o:Nat} {b:List UInt8} (h:BytesIn w (some ⟨g,o,none⟩) b):BytesIn w (some ⟨g,o+6,none⟩) (midOf b):=(h.drop 6).take _
theorem parseF_is (b:List UInt8):parseF b=⟨kindOf b,(b.getD 1 0).toNat,(b.getD 2 0).toNat,(b.getD 3 0).toNat,(b.getD 4 0).toNat,(b.getD 5 0).toNat,tkLine (kindOf b) (midOf b),tkLines (kindOf b) (midOf b)⟩:=rfl
theorem parseOk_is (b:List UInt8):parseOk b=(tkOk (kindOf b) (midOf b) && (tkRest (kindOf b) (midOf b)).isEmpty):=by
  unfold parseOk tkOk tkRest
  split
  · rfl
  · split <;> simp
theorem getD_take (b:List UInt8) (k n:Nat) (h:k < n):(b.take n).getD k 0=b.getD k 0:=by simp [List.getD,List.getElem?_take_of_lt h]
theorem framesUnpack_go (g o cap:Nat) (b:List UInt8) (w:World) (hb:BytesIn w (some ⟨g,o,none⟩) b) (hn:b.length≤10000000) (hcap:b.length≤cap) :
    Calls Tryz.prog 33 #[.slice (some ⟨g,o,none⟩) b.length cap] w (FrameRet w b):=by
  have HB:=hid hb
  clear hb
  go_enter Tryz.func33,Tryz.ntmps33
  go_wp2_with fail
  refine (strip_at _ _ cap b _ (HB.out.below ((Below.refl _ _).alloc (Nat.le_refl _) _)) rfl (by omega) hcap).mono ?_
  rintro e w1 ⟨rfl,hw1⟩
  have HX1:Hid (Box w.heap.size (.int .i64 0) (.int .i64 0) (.int .i64 0) (.int .i64 0) (.int .i64 0) (.int .i64 0) (.int .i64 0) (.int .i64 0) (.string ⟨#[]⟩) (.slice none 0 0) w1):=by
    show Box _ _ _ _ _ _ _ _ _ _ _ _
    rw [hw1];exact heap_alloc_new w _
  have HW1:Hid (Below w.heap.size w w1):=by show Below _ _ _;rw [hw1];exact (Below.refl _ _).alloc (Nat.le_refl _) _
  clear hw1
  obtain ⟨s0,s1,s2,s3,s4,s5,s6,s7,s8,s9⟩:=box_cells HX1.out
  have hf:∀ j,w1.frozen? ⟨w.heap.size,j,none⟩=false:=fun j=>frozen_of_heap HX1.out j
  cases hs:stripOk b
  · have HN:Hid (progR b=none):=by show _=_;unfold progR;rw [if_pos hs]
    simp only [Bool.false_eq_true,if_false]
    go_wp2
    refine progRet (set10 HX1.out rfl _ _ _ _ _ _ _ _ _ _) rfl rfl rfl (frameRet_no HN.out (below10 HW1.out (Nat.le_refl _) _ _ _ _ _ _ _ _ _ _))
  simp only [if_true]
  rcases Nat.lt_or_ge b.length 8 with h8 | h8
  · have HN:Hid (progR b=none):=by show _=_;unfold progR;rw [hs,if_pos h8];rfl
    have h82:b.length - 2 < 6:=by omega
    go_wp2
    refine progRet (set10 HX1.out rfl _ _ _ _ _ _ _ _ _ _) rfl rfl rfl (frameRet_no HN.out (below10 HW1.out (Nat.le_refl _) _ _ _ _ _ _ _ _ _ _))
  have HU:Hid (progR b=if parseOk b=false then none else if (parseF b).ok=false then none else some (parseF b)):=by
    show _=_
    unfold progR
    rw [hs,if_neg (by simp),if_neg (by omega)]
  clear hs s0 s1 s2 s3 s4 s5 s6 s7 s8 s9 hf
  obtain ⟨n,hbl⟩:∃ n,b.length=n+8:=⟨b.length - 8,by omega⟩
  have HBL:=hid hbl
  have e2:b.length - 2=n+6:=by omega
  rw [e2]
  have HF:=hid (parseF_is b)
  have HP:=hid (parseOk_is b)
  have HML:=hid (mid_len b)
  have HT:Hid (BytesIn w1 (some ⟨g,o,none⟩) (b.take (n+6))∧(b.take (n+6)).length=n+6):=⟨(HB.out.below HW1.out).take _,by rw [List.length_take];omega⟩
  have HTD:Hid (∀ k,k < 6→(b.take (n+6)).getD k 0=b.getD k 0):=fun k hk=>getD_take b k (n+6) (by omega)
  clear hbl e2 h8
  have hn6:¬ (n+6 < 6):=by omega
  have hi6:(6:Int)≤((n+6:Nat):Int):=by omega
  have hi62:(6:Int)≤(cap:Int):=by have:=HBL.out;omega
  have hcne:¬ cap=6:=by have:=HBL.out;omega
  go_wp2_with fail
  refine (takeHead_go g o (n+6) cap (b.take (n+6)) _ HT.out.1 (by have:=HT.out.2;omega) HT.out.2 (by have:=HBL.out;omega)).mono ?_
  rintro e w2 ⟨rfl,hb2⟩
  rw [HTD.out 0 (by omega),HTD.out 1 (by omega),HTD.out 2 (by omega),HTD.out 3 (by omega),HTD.out 4 (by omega),HTD.out 5 (by omega)]
  unfold kindOf at HF HP
  generalize b.getD 0 0=x0 at HF HP ⊢
  generalize b.getD 1 0=x1 at HF ⊢
  generalize b.getD 2 0=x2 at HF ⊢
  generalize b.getD 3 0=x3 at HF ⊢
  generalize b.getD 4 0=x4 at HF ⊢
  generalize b.getD 5 0=x5 at HF ⊢
  have HW2:=hid (HW1.out.trans (hb2.mono HW1.out.size))
  have HX2:=hid (Box.below HX1.out hb2)
  have hs2:w.heap.size < w2.heap.size:=heap_lt HX2.out
  clear hb2 HT HTD HX1
  go_wp2_with fail
  refine (takeLines_go w2.heap.size x0.toNat _ _ _ _ _ (some ⟨g,o+6,none⟩) n (cap - 6) (midOf b) _ (heap_alloc_new w2 _) ((HB.out.below HW2.out).mid.below ((Below.refl _ _).alloc (Nat.le_refl _) _)) (by have:=HML.out;have:=HBL.out;omega) (by have:=HML.out;have:=HBL.out;omega) (by have:=HML.out;have:=HBL.out;omega)).mono ?_
  rintro e w3 ⟨a',cap',gl,cl,rfl,hX3,hOL,hT⟩
  have HX3:=hid hX3
  have HOL:Hid (OwnLines w2 w3 gl cl (tkLines x0.toNat (midOf b))):=hOL.base (by simp)
  have hgP:Hid (gl≠some w2.heap.size):=fun e=>by have:=hOL.new _ e;simp at this;omega
  have hgR:Hid (gl≠some w.heap.size):=fun e=>by have:=hOL.new _ e;simp at this;omega
  have HW3:Hid (Below w.heap.size w w3):=(HW2.out.alloc HW2.out.size _).trans (hT.below (by have:=HW2.out.size;simp;omega) (fun k _ e=>by subst e;exact HW2.out.size))
  have HR3:Hid (Box w.heap.size (.int .i64 0) (.int .i64 0) (.int .i64 0) (.int .i64 0) (.int .i64 0) (.int .i64 0) (.int .i64 0) (.int .i64 0) (.string ⟨#[]⟩) (.slice none 0 0) w3):=Box.touch (Box.below HX2.out ((Below.refl _ _).alloc (Nat.le_refl _) _)) hT (fun e=>by omega)
  clear hX3 hOL hT HX2
  generalize w2.heap.size=P at *
  generalize midOf b=md at *
  obtain ⟨r0,r1,r2,r3,r4,r5,r6,r7,r8,r9⟩:=box_cells HR3.out
  have hfR:∀ j,w3.frozen? ⟨w.heap.size,j,none⟩=false:=fun j=>frozen_of_heap HR3.out j
  have HLL:Hid ((tkLines x0.toNat md).length≤256):=by
    show _≤_
    unfold tkLines
    split
    · exact tsLines_len md
    · simp
  cases hk:tkOk x0.toNat md
  · have HNo:Hid (progR b=none):=by show _=_;rw [HU.out,HP.out,hk];rfl
    go_wp2
    refine progRet (set10 HR3.out rfl _ _ _ _ _ _ _ _ _ _) rfl rfl rfl (frameRet_no HNo.out (below10 HW3.out (Nat.le_refl _) _ _ _ _ _ _ _ _ _ _))
  cases hr:tkRest x0.toNat md with
  | cons y ys =>
    have HNo:Hid (progR b=none):=by show _=_;rw [HU.out,HP.out,hk,hr];rfl
    go_wp2
    refine progRet (set10 HR3.out rfl _ _ _ _ _ _ _ _ _ _) rfl rfl rfl (frameRet_no HNo.out (below10 HW3.out (Nat.le_refl _) _ _ _ _ _ _ _ _ _ _))
  | nil =>
    have HPT:Hid (parseOk b=true):=by show _=_;rw [HP.out,hk,hr];rfl
    have HLS:Hid ((parseF b).lines=tkLines x0.toNat md):=by show _=_;rw [HF.out]
    have hlp:=HX3.out
    have hPl:P < w3.heap.size:=heap_lt hlp
    have hRl:w.heap.size < w3.heap.size:=heap_lt HR3.out
    have hfP:∀ j,w3.frozen? ⟨P,j,none⟩=false:=fun j=>frozen_of_heap hlp j
    clear hk hr hlp
    obtain ⟨s0,s1,s2,s3,s4,s5,s6,s7,s8,s9⟩:=box_cells HX3.out
    go_wp2_with fail
    refine (right_at (parseF b) (gl.map fun k=>(⟨k,0,none⟩:Addr)) cl _ (by rw [HLS.out];exact HOL.out.at_) (by rw [HLS.out];have:=HLL.out;omega) (by rw [HLS.out];exact HOL.out.cap) _ (by rw [HF.out];rfl)).mono ?_
    rintro e w4 ⟨rfl,hb4⟩
    have HX4:=hid (Box.below HX3.out hb4)
    have HR4:=hid (Box.below HR3.out hb4)
    have HW4:=hid (HW3.out.trans (hb4.mono HW3.out.size))
    have HO4:=hid (HOL.out.below hb4)
    clear s0 s1 s2 s3 s4 s5 s6 s7 s8 s9 r0 r1 r2 r3 r4 r5 r6 r7 r8 r9 hb4 hfR hfP
    obtain ⟨r0,r1,r2,r3,r4,r5,r6,r7,r8,r9⟩:=box_cells HR4.out
    obtain ⟨s0,s1,s2,s3,s4,s5,s6,s7,s8,s9⟩:=box_cells HX4.out
    have hfR:∀ j,w4.frozen? ⟨w.heap.size,j,none⟩=false:=fun j=>frozen_of_heap HR4.out j
    cases hok:(parseF b).ok
    · have HNo:Hid (progR b=none):=by show _=_;rw [HU.out,HPT.out,hok];rfl
      go_wp2
      refine progRet (set10 HR4.out rfl _ _ _ _ _ _ _ _ _ _) rfl rfl rfl (frameRet_no HNo.out (below10 HW4.out (Nat.le_refl _) _ _ _ _ _ _ _ _ _ _))
    · have HYes:Hid (progR b=some (parseF b)):=by show _=_;rw [HU.out,HPT.out,hok];rfl
      go_wp2
      refine progRet (set10 HR4.out rfl _ _ _ _ _ _ _ _ _ _) rfl rfl rfl (frameRet_yes (g:=gl) (c:=cl) HYes.out ?_ ?_ (below10 HW4.out (Nat.le_refl _) _ _ _ _ _ _ _ _ _ _))
      · rw [HF.out];rfl
      · rw [HLS.out];exact (HO4.out.base HW2.out.size).set10 hgR.out _ _ _ _ _ _ _ _ _ _
def Fr.typed (f:Fr) (a:Option Addr) (cap:Nat):Value :=
  if f.kind=1 then .iface 149 (.agg #[.int .i64 f.line.c,.int .i64 f.line.t,.string ⟨f.line.s.toArray⟩])
  else if f.kind=2 then .iface 153 (.agg #[.int .i64 f.frm,.int .i64 f.view,.int .i64 f.place,.int .i64 f.agreed,.int .i64 f.line.c,.int .i64 f.line.t,.string ⟨f.line.s.toArray⟩])
  else if f.kind=3 then .iface 204 (.agg #[.int .i64 f.frm,.int .i64 f.view,.int .i64 f.place])
  else if f.kind=4 then .iface 156 (.agg #[.int .i64 f.frm,.int .i64 f.view,.int .i64 f.agreed])
  else if f.kind=5 then .iface 206 (.agg #[.int .i64 f.frm,.int .i64 f.view])
  else if f.kind=6 then .iface 208 (.agg #[.int .i64 f.frm,.int .i64 f.view,.int .i64 f.agreed,.int .i64 f.last,.slice a f.lines.length cap])
  else if f.kind=7 then .iface 158 (.agg #[.int .i64 f.frm,.int .i64 f.view,.int .i64 f.agreed,.slice a f.lines.length cap])
  else if f.kind=8 then .iface 209 (.agg #[.int .i64 f.frm,.int .i64 f.view])
  else .iface 211 (.agg #[.int .i64 f.view,.int .i64 f.place,.int .i64 f.line.c,.int .i64 f.line.t,.string ⟨f.line.s.toArray⟩])
theorem typed_go (f:Fr) (a:Option Addr) (cap:Nat) (w:World) (hk:1≤f.kind∧f.kind≤9):Calls Tryz.prog 78 #[f.val a cap] w fun e w'=>e=.returned (f.typed a cap)∧Below w.heap.size w w':=by
  obtain ⟨kind,frm,view,place,agreed,last,⟨c,t,s⟩,ls⟩:=f
  unfold Fr.val sla Fr.typed
  dsimp only at *
  have h9:kind=1∨kind=2∨kind=3∨kind=4∨kind=5∨kind=6∨kind=7∨kind=8∨kind=9:=by omega
  clear hk
  rcases h9 with rfl | rfl | rfl | rfl | rfl | rfl | rfl | rfl | rfl
  all_goals
    simp only [Int.reduceEq,if_true,if_false]
    go_enter Tryz.func78,Tryz.ntmps78
    go_wp2
    go_ret
    exact ⟨rfl,((Below.refl _ _).alloc (Nat.le_refl _) _).alloc (by rw [World.size_alloc];omega) _⟩
theorem unpackR_ok {b:List UInt8} {f:Fr} (h:unpackR b=some f):f.ok=true∧1≤f.kind∧f.kind≤9:=by
  unfold unpackR at h
  split at h
  · cases h
  · rename_i h1
    split at h
    · cases h
    · split at h
      · cases h
      · rename_i h2
        cases h
        have hk:(parseF b).kind=kindOf b:=rfl
        refine ⟨?_,by rw [hk];omega,by rw [hk];omega⟩
        cases hh:(parseF b).ok
        · exact absurd (.inl hh) h2
        · rfl
def ReadRet (w:World) (b:List UInt8) (e:Ending) (w':World):Prop :=
  Below w.heap.size w w'∧((unpackR b=none∧e=.returned (.tuple #[.nilIface,.bool false]))∨∃ f g c,unpackR b=some f∧e=.returned (.tuple #[f.typed (g.map fun k=>(⟨k,0,none⟩:Addr)) c,.bool true])∧OwnLines w w' g c f.lines)
theorem readF_go (g o cap:Nat) (b:List UInt8) (w:World) (hb:BytesIn w (some ⟨g,o,none⟩) b) (hn:b.length≤10000000) (hcap:b.length≤cap) :
    Calls Tryz.prog 40 #[.slice (some ⟨g,o,none⟩) b.length cap] w (ReadRet w b):=by
  have HU:=hid (framesUnpack_go g o cap b w hb hn hcap)
  clear hb
  cases hR:unpackR b with
  | none =>
    have HX:Hid (∀ w',Below w.heap.size w w'→ReadRet w b (.returned (.tuple #[.nilIface,.bool false])) w'):=fun w' h=>⟨h,.inl ⟨hR,rfl⟩⟩
    go_enter Tryz.func40,Tryz.ntmps40
    go_wp2_with fail
    refine HU.out.mono ?_
    rintro e w1 ⟨gl,cl,rfl,hol,hb1⟩
    rw [hR]
    have HB1:=hid hb1
    clear hol hb1 HU hR
    simp only [Option.isSome_none]
    generalize hfv:(unpackF b)=f
    obtain ⟨kind,frm,view,place,agreed,last,⟨c,t,s⟩,ls⟩:=f
    unfold Fr.val sla
    dsimp only
    go_wp2
    go_ret2
    exact HX.out _ (HB1.out.alloc HB1.out.size _)
  | some f =>
    have hk:=unpackR_ok hR
    have hF:unpackF b=f:=(un_yes hR).1
    have HX:Hid (∀ gl cl w',Below w.heap.size w w'→OwnLines w w' gl cl f.lines→ReadRet w b (.returned (.tuple #[f.typed (gl.map fun k=>(⟨k,0,none⟩:Addr)) cl,.bool true])) w'):=fun gl cl w' h h2=>⟨h,.inr ⟨f,gl,cl,hR,rfl,h2⟩⟩
    have TG:Hid (∀ a cp z,Calls Tryz.prog 78 #[f.val a cp] z fun e w'=>e=.returned (f.typed a cp)∧Below z.heap.size z w'):=fun a cp z=>typed_go f a cp z hk.2
    go_enter Tryz.func40,Tryz.ntmps40
    go_wp2_with fail
    refine HU.out.mono ?_
    rintro e w1 ⟨gl,cl,rfl,hol,hb1⟩
    rw [hR]
    rw [hF] at hol ⊢
    have HB1:=hid hb1
    have HOL:=hid hol
    clear hol hb1 HU hR hk hF
    simp only [Option.isSome_some]
    obtain ⟨kind,frm,view,place,agreed,last,⟨c,t,s⟩,ls⟩:=f
    have HT1:=hid (TG.out (gl.map fun k=>(⟨k,0,none⟩:Addr)) cl)
    unfold Fr.val sla at HT1 ⊢
    dsimp only at HT1 ⊢
    have HX2:=hid (HX.out gl cl)
    clear HX TG
    generalize Fr.typed _ _ _=tv at *
    go_wp2_with fail
    refine (HT1.out _).mono ?_
    rintro e w2 ⟨rfl,hb2⟩
    rw [World.size_alloc] at hb2
    have HB2:Hid (Below w.heap.size w w2):=(HB1.out.alloc HB1.out.size _).trans (hb2.mono (by have:=HB1.out.size;omega))
    have HO2:Hid (OwnLines w w2 gl cl ls):=(HOL.out.below ((Below.refl _ _).alloc (Nat.le_refl _) _)).below (by rw [World.size_alloc];exact hb2)
    clear hb2 HT1
    go_wp2
    go_ret2
    exact HX2.out _ HB2.out HO2.out
end
section
open Go.RowKit
/-! What a frame's type is asked for: closed facts. -/
theorem taSaySayFrame (v:Value) (w:World):(Instr.typeAssert (.iface 149 v) 105 149 true).run Tryz.prog w=.ok (.tuple #[v,.bool true]) w:=by kernel_rfl
theorem taPrepareSayFrame (v:Value) (w:World):(Instr.typeAssert (.iface 153 v) 105 149 true).run Tryz.prog w=.ok (.tuple #[.agg #[.int .i64 0,.int .i64 0,.string ⟨#[]⟩],.bool false]) w:=by kernel_rfl
theorem taPreparePrepareFrame (v:Value) (w:World):(Instr.typeAssert (.iface 153 v) 105 153 true).run Tryz.prog w=.ok (.tuple #[v,.bool true]) w:=by kernel_rfl
theorem taPreparePrepareOfKeeper (v:Value) (w:World):(Instr.typeAssert (.iface 153 v) 160 153 true).run Tryz.prog w=.ok (.tuple #[v,.bool true]) w:=by kernel_rfl
theorem taPrepareOf (v:Value) (w:World):(Instr.typeAssert (.iface 153 v) 105 160 true).run Tryz.prog w=.ok (.tuple #[.iface 153 v,.bool true]) w:=by kernel_rfl
theorem taHoldSayFrame (v:Value) (w:World):(Instr.typeAssert (.iface 204 v) 105 149 true).run Tryz.prog w=.ok (.tuple #[.agg #[.int .i64 0,.int .i64 0,.string ⟨#[]⟩],.bool false]) w:=by kernel_rfl
theorem taHoldPrepareFrame (v:Value) (w:World):(Instr.typeAssert (.iface 204 v) 105 153 true).run Tryz.prog w=.ok (.tuple #[.agg #[.int .i64 0,.int .i64 0,.int .i64 0,.int .i64 0,.int .i64 0,.int .i64 0,.string ⟨#[]⟩],.bool false]) w:=by kernel_rfl
theorem taHoldPrepareOfKeeper (v:Value) (w:World):(Instr.typeAssert (.iface 204 v) 160 153 true).run Tryz.prog w=.ok (.tuple #[.agg #[.int .i64 0,.int .i64 0,.int .i64 0,.int .i64 0,.int .i64 0,.int .i64 0,.string ⟨#[]⟩],.bool false]) w:=by kernel_rfl
theorem taHoldHoldOfKeeper (v:Value) (w:World):(Instr.typeAssert (.iface 204 v) 160 204 true).run Tryz.prog w=.ok (.tuple #[v,.bool true]) w:=by kernel_rfl
theorem taHoldBeatFrame (v:Value) (w:World):(Instr.typeAssert (.iface 204 v) 105 156 true).run Tryz.prog w=.ok (.tuple #[.agg #[.int .i64 0,.int .i64 0,.int .i64 0],.bool false]) w:=by kernel_rfl
theorem taHoldBeatOfKeeper (v:Value) (w:World):(Instr.typeAssert (.iface 204 v) 160 156 true).run Tryz.prog w=.ok (.tuple #[.agg #[.int .i64 0,.int .i64 0,.int .i64 0],.bool false]) w:=by kernel_rfl
theorem taHoldBeginFrame (v:Value) (w:World):(Instr.typeAssert (.iface 204 v) 105 158 true).run Tryz.prog w=.ok (.tuple #[.agg #[.int .i64 0,.int .i64 0,.int .i64 0,.slice none 0 0],.bool false]) w:=by kernel_rfl
theorem taHoldBeginOfKeeper (v:Value) (w:World):(Instr.typeAssert (.iface 204 v) 160 158 true).run Tryz.prog w=.ok (.tuple #[.agg #[.int .i64 0,.int .i64 0,.int .i64 0,.slice none 0 0],.bool false]) w:=by kernel_rfl
theorem taHoldOf (v:Value) (w:World):(Instr.typeAssert (.iface 204 v) 105 160 true).run Tryz.prog w=.ok (.tuple #[.iface 204 v,.bool true]) w:=by kernel_rfl
theorem taBeatSayFrame (v:Value) (w:World):(Instr.typeAssert (.iface 156 v) 105 149 true).run Tryz.prog w=.ok (.tuple #[.agg #[.int .i64 0,.int .i64 0,.string ⟨#[]⟩],.bool false]) w:=by kernel_rfl
theorem taBeatPrepareFrame (v:Value) (w:World):(Instr.typeAssert (.iface 156 v) 105 153 true).run Tryz.prog w=.ok (.tuple #[.agg #[.int .i64 0,.int .i64 0,.int .i64 0,.int .i64 0,.int .i64 0,.int .i64 0,.string ⟨#[]⟩],.bool false]) w:=by kernel_rfl
theorem taBeatPrepareOfKeeper (v:Value) (w:World):(Instr.typeAssert (.iface 156 v) 160 153 true).run Tryz.prog w=.ok (.tuple #[.agg #[.int .i64 0,.int .i64 0,.int .i64 0,.int .i64 0,.int .i64 0,.int .i64 0,.string ⟨#[]⟩],.bool false]) w:=by kernel_rfl
theorem taBeatBeatFrame (v:Value) (w:World):(Instr.typeAssert (.iface 156 v) 105 156 true).run Tryz.prog w=.ok (.tuple #[v,.bool true]) w:=by kernel_rfl
theorem taBeatBeatOfKeeper (v:Value) (w:World):(Instr.typeAssert (.iface 156 v) 160 156 true).run Tryz.prog w=.ok (.tuple #[v,.bool true]) w:=by kernel_rfl
theorem taBeatOf (v:Value) (w:World):(Instr.typeAssert (.iface 156 v) 105 160 true).run Tryz.prog w=.ok (.tuple #[.iface 156 v,.bool true]) w:=by kernel_rfl
theorem taBeginSayFrame (v:Value) (w:World):(Instr.typeAssert (.iface 158 v) 105 149 true).run Tryz.prog w=.ok (.tuple #[.agg #[.int .i64 0,.int .i64 0,.string ⟨#[]⟩],.bool false]) w:=by kernel_rfl
theorem taBeginPrepareFrame (v:Value) (w:World):(Instr.typeAssert (.iface 158 v) 105 153 true).run Tryz.prog w=.ok (.tuple #[.agg #[.int .i64 0,.int .i64 0,.int .i64 0,.int .i64 0,.int .i64 0,.int .i64 0,.string ⟨#[]⟩],.bool false]) w:=by kernel_rfl
theorem taBeginPrepareOfKeeper (v:Value) (w:World):(Instr.typeAssert (.iface 158 v) 160 153 true).run Tryz.prog w=.ok (.tuple #[.agg #[.int .i64 0,.int .i64 0,.int .i64 0,.int .i64 0,.int .i64 0,.int .i64 0,.string ⟨#[]⟩],.bool false]) w:=by kernel_rfl
theorem taBeginBeatFrame (v:Value) (w:World):(Instr.typeAssert (.iface 158 v) 105 156 true).run Tryz.prog w=.ok (.tuple #[.agg #[.int .i64 0,.int .i64 0,.int .i64 0],.bool false]) w:=by kernel_rfl
theorem taBeginBeatOfKeeper (v:Value) (w:World):(Instr.typeAssert (.iface 158 v) 160 156 true).run Tryz.prog w=.ok (.tuple #[.agg #[.int .i64 0,.int .i64 0,.int .i64 0],.bool false]) w:=by kernel_rfl
theorem taBeginBeginFrame (v:Value) (w:World):(Instr.typeAssert (.iface 158 v) 105 158 true).run Tryz.prog w=.ok (.tuple #[v,.bool true]) w:=by kernel_rfl
theorem taBeginBeginOfKeeper (v:Value) (w:World):(Instr.typeAssert (.iface 158 v) 160 158 true).run Tryz.prog w=.ok (.tuple #[v,.bool true]) w:=by kernel_rfl
theorem taBeginOf (v:Value) (w:World):(Instr.typeAssert (.iface 158 v) 105 160 true).run Tryz.prog w=.ok (.tuple #[.iface 158 v,.bool true]) w:=by kernel_rfl
theorem taLagSayFrame (v:Value) (w:World):(Instr.typeAssert (.iface 209 v) 105 149 true).run Tryz.prog w=.ok (.tuple #[.agg #[.int .i64 0,.int .i64 0,.string ⟨#[]⟩],.bool false]) w:=by kernel_rfl
theorem taLagPrepareFrame (v:Value) (w:World):(Instr.typeAssert (.iface 209 v) 105 153 true).run Tryz.prog w=.ok (.tuple #[.agg #[.int .i64 0,.int .i64 0,.int .i64 0,.int .i64 0,.int .i64 0,.int .i64 0,.string ⟨#[]⟩],.bool false]) w:=by kernel_rfl
theorem taLagPrepareOfKeeper (v:Value) (w:World):(Instr.typeAssert (.iface 209 v) 160 153 true).run Tryz.prog w=.ok (.tuple #[.agg #[.int .i64 0,.int .i64 0,.int .i64 0,.int .i64 0,.int .i64 0,.int .i64 0,.string ⟨#[]⟩],.bool false]) w:=by kernel_rfl
theorem taLagHoldOfKeeper (v:Value) (w:World):(Instr.typeAssert (.iface 209 v) 160 204 true).run Tryz.prog w=.ok (.tuple #[.agg #[.int .i64 0,.int .i64 0,.int .i64 0],.bool false]) w:=by kernel_rfl
theorem taLagBeatFrame (v:Value) (w:World):(Instr.typeAssert (.iface 209 v) 105 156 true).run Tryz.prog w=.ok (.tuple #[.agg #[.int .i64 0,.int .i64 0,.int .i64 0],.bool false]) w:=by kernel_rfl
theorem taLagBeatOfKeeper (v:Value) (w:World):(Instr.typeAssert (.iface 209 v) 160 156 true).run Tryz.prog w=.ok (.tuple #[.agg #[.int .i64 0,.int .i64 0,.int .i64 0],.bool false]) w:=by kernel_rfl
theorem taLagChangeOfKeeper (v:Value) (w:World):(Instr.typeAssert (.iface 209 v) 160 206 true).run Tryz.prog w=.ok (.tuple #[.agg #[.int .i64 0,.int .i64 0],.bool false]) w:=by kernel_rfl
theorem taLagYieldOfKeeper (v:Value) (w:World):(Instr.typeAssert (.iface 209 v) 160 208 true).run Tryz.prog w=.ok (.tuple #[.agg #[.int .i64 0,.int .i64 0,.int .i64 0,.int .i64 0,.slice none 0 0],.bool false]) w:=by kernel_rfl
theorem taLagBeginFrame (v:Value) (w:World):(Instr.typeAssert (.iface 209 v) 105 158 true).run Tryz.prog w=.ok (.tuple #[.agg #[.int .i64 0,.int .i64 0,.int .i64 0,.slice none 0 0],.bool false]) w:=by kernel_rfl
theorem taLagBeginOfKeeper (v:Value) (w:World):(Instr.typeAssert (.iface 209 v) 160 158 true).run Tryz.prog w=.ok (.tuple #[.agg #[.int .i64 0,.int .i64 0,.int .i64 0,.slice none 0 0],.bool false]) w:=by kernel_rfl
theorem taLagLagOfKeeper (v:Value) (w:World):(Instr.typeAssert (.iface 209 v) 160 209 true).run Tryz.prog w=.ok (.tuple #[v,.bool true]) w:=by kernel_rfl
theorem taLagOf (v:Value) (w:World):(Instr.typeAssert (.iface 209 v) 105 160 true).run Tryz.prog w=.ok (.tuple #[.iface 209 v,.bool true]) w:=by kernel_rfl
theorem taToldSayFrame (v:Value) (w:World):(Instr.typeAssert (.iface 211 v) 105 149 true).run Tryz.prog w=.ok (.tuple #[.agg #[.int .i64 0,.int .i64 0,.string ⟨#[]⟩],.bool false]) w:=by kernel_rfl
theorem taToldPrepareFrame (v:Value) (w:World):(Instr.typeAssert (.iface 211 v) 105 153 true).run Tryz.prog w=.ok (.tuple #[.agg #[.int .i64 0,.int .i64 0,.int .i64 0,.int .i64 0,.int .i64 0,.int .i64 0,.string ⟨#[]⟩],.bool false]) w:=by kernel_rfl
theorem taToldBeatFrame (v:Value) (w:World):(Instr.typeAssert (.iface 211 v) 105 156 true).run Tryz.prog w=.ok (.tuple #[.agg #[.int .i64 0,.int .i64 0,.int .i64 0],.bool false]) w:=by kernel_rfl
theorem taToldBeginFrame (v:Value) (w:World):(Instr.typeAssert (.iface 211 v) 105 158 true).run Tryz.prog w=.ok (.tuple #[.agg #[.int .i64 0,.int .i64 0,.int .i64 0,.slice none 0 0],.bool false]) w:=by kernel_rfl
end
section
open Go.RowKit
attribute [local go_sem ↓] Go.wp_at_zero Go.wp_at_succ
attribute [local go_sem] taSaySayFrame
theorem unlessAliveV (v:PV) (B:Nat) (w:World) (h:v.At w B) (hl:v.lost=[]) (a:Option Addr) (n c:Nat):Calls Tryz.prog 42 #[.pointer (some ⟨B,0,none⟩),.slice a n c] w fun e w'=>e=.returned (.tuple #[.slice a n c,.int .i64 0])∧Below w.heap.size w w':=by
  have FV:=hid (failedV v B w h)
  rw [hl] at FV
  clear h hl
  go_enter Tryz.func42,Tryz.ntmps42
  go_wp2_with fail
  refine FV.out.mono ?_
  rintro e X0 ⟨rfl,hb0⟩
  have HB0:=hid hb0
  clear hb0 FV
  simp only [List.length_nil,Nat.lt_irrefl,decide_false]
  go_wp2
  go_ret2
  exact ⟨rfl,HB0.out⟩
theorem hearSayT (R:Ending→World→Prop) (B:Nat) (w:World) (c t:Int) (s:List UInt8) (HS:∀ z,Below w.heap.size w z→Calls Tryz.prog 81 #[.pointer (some ⟨B,0,none⟩),.agg #[.int .i64 c,.int .i64 t,.string ⟨s.toArray⟩]] z fun e w'=>∃ a n q,e=.returned (.slice a n q)∧R e w') :
    Calls Tryz.prog 43 #[.pointer (some ⟨B,0,none⟩),.iface 149 (.agg #[.int .i64 c,.int .i64 t,.string ⟨s.toArray⟩])] w fun e w'=>∃ a n q,e=.returned (.slice a n q)∧R e w':=by
  have HH:=hid HS
  clear HS
  go_enter Tryz.func43,Tryz.ntmps43
  go_wp2_with fail
  refine (HH.out _ ((Below.refl _ _).alloc (Nat.le_refl _) _)).mono ?_
  rintro e w1 ⟨a,n,q,rfl,hr⟩
  have HR:=hid hr
  clear hr HH
  go_wp2
  go_ret
  exact ⟨a,n,q,rfl,HR.out⟩
theorem acceptsSay (B:Nat) (w:World) (c t:Int) (s:List UInt8):Calls Tryz.prog 41 #[.pointer (some ⟨B,0,none⟩),.iface 149 (.agg #[.int .i64 c,.int .i64 t,.string ⟨s.toArray⟩])] w fun e w'=>e=.returned (.bool true)∧Below w.heap.size w w':=by
  go_enter Tryz.func41,Tryz.ntmps41
  go_wp2
  go_ret
  exact ⟨rfl,(Below.refl _ _).alloc (Nat.le_refl _) _⟩
end
section
open Go.RowKit
attribute [local go_sem ↓] Go.wp_at_zero Go.wp_at_succ
theorem stampedPrepare (a b c d e f g : Value) (w : World) : (method 436 153 (.agg #[a, b, c, d, e, f, g]) "Stamped").run Tryz.prog w = .ok (277, .agg #[a, b]) w := by kernel_rfl
theorem stampedHold (a b c : Value) (w : World) : (method 436 204 (.agg #[a, b, c]) "Stamped").run Tryz.prog w = .ok (277, .agg #[a, b]) w := by kernel_rfl
theorem stampedBeat (a b c : Value) (w : World) : (method 436 156 (.agg #[a, b, c]) "Stamped").run Tryz.prog w = .ok (277, .agg #[a, b]) w := by kernel_rfl
theorem stampedBegin (a b c d : Value) (w : World) : (method 436 158 (.agg #[a, b, c, d]) "Stamped").run Tryz.prog w = .ok (277, .agg #[a, b]) w := by kernel_rfl
theorem stampedLag (a b : Value) (w : World) : (method 436 209 (.agg #[a, b]) "Stamped").run Tryz.prog w = .ok (277, .agg #[a, b]) w := by kernel_rfl
theorem run_fieldS (w:World) (a b:Value):(Instr.field 151 (.agg #[a,b]) 0).run Tryz.prog w=.ok a w:=by
  unfold Instr.field
  simp [go_sem,asAgg]
theorem stamped_go (a b:Int) (w:World):Calls Tryz.prog 277 #[.agg #[.int .i64 a,.int .i64 b]] w fun e w'=>e=.returned (.agg #[.int .i64 a,.int .i64 b])∧Below w.heap.size w w':=by
  go_enter Tryz.func277,Tryz.ntmps277
  go_wp2
  refine bodyPost_ret (v:=.agg #[.int .i64 a,.int .i64 b]) ?_ rfl ⟨rfl,((Below.refl _ _).alloc (Nat.le_refl _) _).alloc (by rw [World.size_alloc];omega) _⟩
  simp [results,Tryz.results277,go_sem,World.cell?_alloc_at,World.cell?_alloc_new]
attribute [local go_sem] run_fieldS
section
attribute [local go_sem] taHoldSayFrame taHoldPrepareFrame taHoldBeatFrame taHoldBeginFrame taHoldOf stampedHold
theorem acceptsHold (v:PV) (B:Nat) (w:World) (h:v.At w B) (fr vw pl:Int):Calls Tryz.prog 41 #[.pointer (some ⟨B,0,none⟩),.iface 204 (.agg #[.int .i64 fr,.int .i64 vw,.int .i64 pl])] w fun e w'=>e=.returned (.bool (decide (0≤fr) && decide (fr < v.kp) && (fr != v.me)))∧Below w.heap.size w w':=by
  have IO:Hid (∀ z,Below w.heap.size w z→Calls Tryz.prog 80 #[.pointer (some ⟨B,0,none⟩),.int .i64 fr] z fun e w'=>e=.returned (.bool (decide (0≤fr) && decide (fr < v.kp) && (fr != v.me)))∧Below z.heap.size z w'):=fun z hz=>isOtherV v B z (h.below hz) fr
  clear h
  generalize (decide (0≤fr) && decide (fr < v.kp) && (fr != v.me))=bb at *
  go_enter Tryz.func41,Tryz.ntmps41
  go_wp2_with fail
  refine (stamped_go fr vw w).mono ?_
  rintro e X1 ⟨rfl,hb1⟩
  have HB1:=hid hb1
  clear hb1
  go_wp2_with fail
  refine (IO.out _ HB1.out).mono ?_
  rintro e X2 ⟨rfl,hb2⟩
  have HB2:=hid (HB1.out.trans (hb2.mono HB1.out.size))
  clear hb2 IO
  go_wp2
  go_ret
  exact ⟨rfl,HB2.out⟩
end
section
attribute [local go_sem] taLagSayFrame taLagPrepareFrame taLagBeatFrame taLagBeginFrame taLagOf stampedLag
theorem acceptsLag (v:PV) (B:Nat) (w:World) (h:v.At w B) (fr vw:Int):Calls Tryz.prog 41 #[.pointer (some ⟨B,0,none⟩),.iface 209 (.agg #[.int .i64 fr,.int .i64 vw])] w fun e w'=>e=.returned (.bool (decide (0≤fr) && decide (fr < v.kp) && (fr != v.me)))∧Below w.heap.size w w':=by
  have IO:Hid (∀ z,Below w.heap.size w z→Calls Tryz.prog 80 #[.pointer (some ⟨B,0,none⟩),.int .i64 fr] z fun e w'=>e=.returned (.bool (decide (0≤fr) && decide (fr < v.kp) && (fr != v.me)))∧Below z.heap.size z w'):=fun z hz=>isOtherV v B z (h.below hz) fr
  clear h
  generalize (decide (0≤fr) && decide (fr < v.kp) && (fr != v.me))=bb at *
  go_enter Tryz.func41,Tryz.ntmps41
  go_wp2_with fail
  refine (stamped_go fr vw w).mono ?_
  rintro e X1 ⟨rfl,hb1⟩
  have HB1:=hid hb1
  clear hb1
  go_wp2_with fail
  refine (IO.out _ HB1.out).mono ?_
  rintro e X2 ⟨rfl,hb2⟩
  have HB2:=hid (HB1.out.trans (hb2.mono HB1.out.size))
  clear hb2 IO
  go_wp2
  go_ret
  exact ⟨rfl,HB2.out⟩
end
end
end Go.Proofs.YtolififimldmlaaGreat
