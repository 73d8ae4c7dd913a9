import Derived.Test.YtolififimldmlaaGreatPart32
import Derived.Test.YtolififimldmlaaGreatPart21
set_option linter.unusedVariables false
set_option linter.unusedSimpArgs false
set_option maxRecDepth 100000
set_option maxHeartbeats 16000000
namespace Go.Proofs.YtolififimldmlaaGreat
section
open Go.RowKit
attribute [local go_sem ↓] Go.wp_at_zero Go.wp_at_succ
theorem PV.At.cellChg {v u:PV} {w:World} {B j:Nat} {x:Value} (h:v.At w B) (hc:(progCells v.kp v.me v.pa v.gd v.d.length v.cd v.m v.gl v.cl v.arm v.gf v.lost.length v.cf v.ag v.hs).setIfInBounds j x=progCells u.kp u.me u.pa u.gd u.d.length u.cd u.m u.gl u.cl u.arm u.gf u.lost.length u.cf u.ag u.hs)
    (hd:u.d=v.d∧u.m=v.m∧u.lost=v.lost∧u.gd=v.gd∧u.cd=v.cd∧u.gl=v.gl∧u.cl=v.cl∧u.gf=v.gf∧u.cf=v.cf):Chg w (w.setCell ⟨B,j,none⟩ x) B v u:=by
  have t:Touch (fun k=>k=B) w (w.setCell ⟨B,j,none⟩ x):=(Touch.refl (fun k=>k=B) w).setCell (p:=⟨B,j,none⟩) (fun _=>rfl) _
  have hb:=heap_setCell h.blk j x
  obtain ⟨e1,e2,e3,e4,e5,e6,e7,e8,e9⟩:=hd
  have nd:∀ k,u.gd=some k→¬ (k=B):=fun k e e'=>h.ne1.1 (by rw [← e4,e,e'])
  have nl:∀ k,u.gl=some k→¬ (k=B):=fun k e e'=>h.ne1.2.1 (by rw [← e6,e,e'])
  have nf:∀ k,u.gf=some k→¬ (k=B):=fun k e e'=>h.ne1.2.2 (by rw [← e8,e,e'])
  rw [hc] at hb
  refine ⟨⟨hb,?_,?_,?_,?_,?_,?_,?_,?_⟩,t.mono (fun i _ e=>.inl e),fun k e=>?_⟩
  · rw [e1];exact BytesAt.touch (by rw [e4];exact h.db) t nd
  · rw [e1,e5];exact OwnRow.touch (by rw [e4];exact h.dow) t nd
  · rw [e2,e6]
    refine h.lb.touch t (fun q e=>?_)
    cases hg:v.gl with
    | none=>rw [hg] at e;cases e
    | some g0=>rw [hg] at e;cases e;exact nl g0 (by rw [e6];exact hg)
  · rw [e2,e7];exact OwnRow.touch (by rw [e6];exact h.low) t nl
  · rw [e3];exact BytesAt.touch (by rw [e8];exact h.fb) t nf
  · rw [e3,e9];exact OwnRow.touch (by rw [e8];exact h.fow) t nf
  · rw [e4,e6,e8];exact h.ne1
  · rw [e4,e6,e8];exact h.ne2
  · unfold PV.own at e
    rw [e4,e6,e8] at e
    exact .inl e
theorem PV.At.setAg {v:PV} {w:World} {B:Nat} (h:v.At w B) (n:Nat):Chg w (w.setCell ⟨B,9,none⟩ (.int .i64 n)) B v { v with ag:=n } :=
  h.cellChg (by unfold progCells;simp only [List.setIfInBounds_toArray,List.set_cons_zero,List.set_cons_succ]) ⟨rfl,rfl,rfl,rfl,rfl,rfl,rfl,rfl,rfl⟩
def holdsSet (hs:Nat→Int) (t:Nat) (x:Int):Nat→Int:=fun j=>if j=t then x else hs j
theorem PV.At.setHold {v:PV} {w:World} {B:Nat} (h:v.At w B) (t:Nat) (ht:t < 5) (x:Int):Chg w (w.setCell ⟨B,10+t,none⟩ (.int .i64 x)) B v { v with hs:=holdsSet v.hs t x }:=by
  refine h.cellChg ?_ ⟨rfl,rfl,rfl,rfl,rfl,rfl,rfl,rfl,rfl⟩
  have h5:t=0∨t=1∨t=2∨t=3∨t=4:=by omega
  rcases h5 with rfl | rfl | rfl | rfl | rfl
  all_goals
    unfold progCells holdsSet
    simp
def toldL (m:Mm) (a k:Nat):List OutG:=(List.range k).map fun j=>⟨true,(m.ls.getD (a+j) Ln.zero).c,packS ⟨9,0,m.view,(a+j+1:Nat),0,0,⟨(m.ls.getD (a+j) Ln.zero).c,(m.ls.getD (a+j) Ln.zero).t,[]⟩,[]⟩⟩
theorem toldL_succ (m:Mm) (a k:Nat):toldL m a (k+1)=toldL m a k++[⟨true,(m.ls.getD (a+k) Ln.zero).c,packS ⟨9,0,m.view,(a+k+1:Nat),0,0,⟨(m.ls.getD (a+k) Ln.zero).c,(m.ls.getD (a+k) Ln.zero).t,[]⟩,[]⟩⟩]:=by
  unfold toldL
  rw [List.range_succ,List.map_append];rfl
theorem toldL_len (m:Mm) (a k:Nat):(toldL m a k).length=k:=by unfold toldL;simp
theorem toldG (v:PV) (B:Nat) (w:World) (h:v.At w B) (j:Nat) (hj:j < v.m.ls.length) (h20:v.m.ls.length≤20):Calls Tryz.prog 162 #[.pointer (some ⟨B,0,none⟩),.int .i64 (j+1:Nat)] w (OutRet w true (v.m.ls.getD j Ln.zero).c (packS ⟨9,0,v.m.view,(j+1:Nat),0,0,⟨(v.m.ls.getD j Ln.zero).c,(v.m.ls.getD j Ln.zero).t,[]⟩,[]⟩)):=by
  have e:v.m.ls.getD j Ln.zero=v.m.ls[j]:=by rw [List.getD_eq_getElem?_getD,List.getElem?_eq_getElem hj];rfl
  rw [e]
  exact toldV v B w h j hj h20
theorem hearHoldV (v:PV) (B:Nat) (w:World) (h:v.At w B) (n:Nat) (hkn:v.kp=n) (h35:n=3∨n=5) (hme:0≤v.me∧v.me < n) (h20:v.m.ls.length≤20) (fr vw pl:Int) (hfr:0≤fr∧fr < 5) (hpl:pl≤v.m.ls.length)
    (hs':Nat→Int) (hhs:hs'=holdsSet v.hs fr.toNat (max (v.hs fr.toNat) pl)) (hf:Nat) (hhf:heldFew hs' v.me n=hf) (hfl:hf≤v.m.ls.length) (hag:v.ag≤v.m.ls.length) :
    Calls Tryz.prog 188 #[.pointer (some ⟨B,0,none⟩),.agg #[.int .i64 fr,.int .i64 vw,.int .i64 pl]] w fun e w'=>∃ g c gs cs,e=.returned (sl g (max v.ag hf - v.ag) c)∧OwnOuts w w' g c (toldL v.m v.ag (max v.ag hf - v.ag)) gs cs∧Chg w w' B v { v with hs:=hs',ag:=max v.ag hf }:=by
  have LV:Hid (∀ z,Below w.heap.size w z→Calls Tryz.prog 83 #[.pointer (some ⟨B,0,none⟩)] z fun e w'=>e=.returned (sl v.gl v.m.ls.length v.cl)∧Below z.heap.size z w'):=fun z hz=>linesV v B z (h.below hz)
  have HV:=hid h
  clear h
  go_enter Tryz.func188,Tryz.ntmps188
  go_wp2
  obtain ⟨Y,hY⟩:∃ Y,Y=w.alloc (.cells #[.int .i64 fr,.int .i64 vw,.int .i64 pl] 204):=⟨_,rfl⟩
  rw [← hY]
  have HBY:Hid (Below w.heap.size w Y):=by show Below _ _ _;rw [hY];exact (Below.refl _ _).alloc (Nat.le_refl _) _
  have HL:Hid (Y.heap[w.heap.size]?=some (.cells #[.int .i64 fr,.int .i64 vw,.int .i64 pl] 204 (0,0))):=by show _=_;rw [hY];exact heap_alloc_new w _
  clear hY
  refine wp_region_held_drew (S:=fun z:World=>z.heap[w.heap.size]?=some (.cells #[.int .i64 fr,.int .i64 vw,.int .i64 pl] 204 (0,0))) (by kernel_rfl) HL.out (fun hS=>?_)
  refine tH 0 hS ?_
  try simp only [lA,lB,lC,Act.put,lD,lE,lF]
  refine tH 2 hS ?_
  try simp only [lA,lB,lC,Act.put,lD,lE,lF]
  refine tH 1 hS ?_ (hy:=by (intro w hw;have s0:=cell_of_heap hw 0;have s1:=cell_of_heap hw 1;have s2:=cell_of_heap hw 2;simp only [List.getElem?_toArray,List.getElem?_cons_zero,List.getElem?_cons_succ] at s0 s1 s2;clear hw;go_simp;try with_reducible rfl))
  try simp only [lA,lB,lC,Act.put,lD,lE,lF]
  refine wpAnyH_ready (rs:=[3]) (by kernel_rfl) (by simp) ?_
  refine AllReadyH.cons rfl (fun K hK=>?_) AllReadyH.nil
  go_simp
  refine (LV.out _ HBY.out.drew).mono ?_
  rintro e X1 ⟨rfl,hbf⟩
  have HB1:=hid (HBY.out.drew.trans (hbf.mono HBY.out.size))
  have HL1:=hid ((hbf.block _ (heap_lt HL.out)).trans HL.out)
  clear hbf
  refine hK.out _ _ HL1.out (fun hS=>?_)
  clear hK K LV
  unfold sl
  have hpd:decide (pl≤(v.m.ls.length:Int))=true:=decide_eq_true hpl
  refine tH 4 hS ?_
  try simp only [lA,lB,lC,Act.put,lD,lE,lF]
  refine tH 5 hS ?_
  try simp only [lA,lB,lC,Act.put,lD,lE,lF]
  refine wpAnyH_done (by kernel_rfl) ?_ _
  clear hS
  have HV1:=hid (HV.out.below HB1.out)
  have s0:=cell_of_heap HL1.out 0
  have s2:=cell_of_heap HL1.out 2
  simp only [List.getElem?_toArray,List.getElem?_cons_zero,List.getElem?_cons_succ] at s0 s2
  have hc:=holds_cell HV1.out fr hfr.1 hfr.2
  have f0:=hfr.1
  have f5:=hfr.2
  have q9:X1.cell? ⟨B,9,none⟩=some (.int .i64 v.ag):=cell_of_heap HV1.out.blk 9
  have fB:∀ j,X1.frozen? ⟨B,j,none⟩=false:=fun j=>frozen_of_heap HV1.out.blk j
  have n9:9≠10+fr.toNat:=by omega
  have n9':10+fr.toNat≠9:=by omega
  have HC2:=hid (HV1.out.setHold fr.toNat (by omega) (max (v.hs fr.toNat) pl))
  have HHS:=hid hhs
  have HHF:=hid hhf
  clear hhs hhf hpd
  generalize hy:v.hs fr.toNat=y at *
  rcases Int.lt_or_le y pl with hm | hm
  · have hmx:max y pl=pl:=by omega
    rw [hmx] at HC2 HHS
    clear hmx
    go_wp2
    go_still_tail 17,(by kernel_rfl)
    go_wp2_with fail
    have HC3:Hid (Chg w (X1.setCell ⟨B,10+fr.toNat,none⟩ (.int .i64 pl)).drew B v { v with hs:=hs' }):=by
      have:=(Chg.of HB1.out HV.out HC2.out).below ((Below.refl _ _).drew)
      rw [← HHS.out] at this
      exact this
    clear HC2 HHS q9 fB n9 n9' hc s0 s2 hy hm
    generalize (X1.setCell ⟨B,10+fr.toNat,none⟩ (.int .i64 pl)).drew=Z at *
    have HF:=hid (heldByFewV _ B Z HC3.out.at_ n hkn h35 hme)
    dsimp only at HF
    rw [HHF.out] at HF
    refine HF.out.mono ?_
    rintro e X3 ⟨rfl,hb3⟩
    have HC4:=hid (HC3.out.below hb3)
    clear hb3 HF HC3 HHF
    have r9:X3.cell? ⟨B,9,none⟩=some (.int .i64 v.ag):=cell_of_heap HC4.out.at_.blk 9
    have f3:∀ j,X3.frozen? ⟨B,j,none⟩=false:=fun j=>frozen_of_heap HC4.out.at_.blk j
    have HC5:Hid (Chg w (X3.setCell ⟨B,9,none⟩ (.int .i64 (max v.ag hf:Nat))) B v { v with hs:=hs',ag:=max v.ag hf }):=HC4.out.trans (HC4.out.at_.setAg (max v.ag hf))
    have hW:Hid ((hf≤v.ag∧X3.setCell ⟨B,9,none⟩ (.int .i64 v.ag)=X3.setCell ⟨B,9,none⟩ (.int .i64 (max v.ag hf:Nat)))∨(v.ag < hf∧X3.setCell ⟨B,9,none⟩ (.int .i64 hf)=X3.setCell ⟨B,9,none⟩ (.int .i64 (max v.ag hf:Nat)))):=by
      rcases Nat.lt_or_ge v.ag hf with q | q
      · exact .inr ⟨q,by rw [show max v.ag hf=hf from by omega]⟩
      · exact .inl ⟨q,by rw [show max v.ag hf=v.ag from by omega]⟩
    have HA:Hid (max v.ag hf≤v.m.ls.length):=by show _≤_;omega
    have HAG:Hid (v.ag≤max v.ag hf):=by show _≤_;omega
    rcases hW.out with ⟨hc1,hc2⟩ | ⟨hc1,hc2⟩
    all_goals
      have g1:(v.ag:Int) < (hf:Int)∨¬ ((v.ag:Int) < (hf:Int)):=by omega
      have HC2':=hid hc2
      clear hc2 hW g1
      first
      | (have c1 : ¬ ((v.ag : Int) < (hf : Int)) := by omega
         clear hc1)
      | (have c1 : (v.ag : Int) < (hf : Int) := by omega
         clear hc1)
      go_wp2
      rw [HC2'.out]
      clear HC2' r9 f3 c1 HC4
      generalize X3.setCell ⟨B,9,none⟩ (.int .i64 (max v.ag hf:Nat))=Z2 at *
      have HV5:=hid HC5.out.at_
      obtain ⟨io,hio,hio0,hio1,hio2⟩:=info_parts Tryz.info71
      generalize hAA:max v.ag hf=A at *
      have TG:Hid (∀ z k,Below Z2.heap.size Z2 z→v.ag+k < A→Calls Tryz.prog 162 #[.pointer (some ⟨B,0,none⟩),.int .i64 (v.ag+k+1:Nat)] z (OutRet z true (v.m.ls.getD (v.ag+k) Ln.zero).c (packS ⟨9,0,v.m.view,(v.ag+k+1:Nat),0,0,⟨(v.m.ls.getD (v.ag+k) Ln.zero).c,(v.m.ls.getD (v.ag+k) Ln.zero).t,[]⟩,[]⟩))):=fun z k hz hk=>toldG _ B z (HV5.out.below hz) (v.ag+k) (by have:=HA.out;show v.ag+k < v.m.ls.length;omega) h20
      unfold OutRet at TG
      have HFIN:Hid (∀ g c gs cs wz,OwnOuts w wz g c (toldL v.m v.ag (A - v.ag)) gs cs→Below Z2.heap.size Z2 wz→∃ g' c' gs cs,Ending.returned (.slice (g.map fun q=>⟨q,0,none⟩) (A - v.ag) c)=.returned (sl g' (A - v.ag) c')∧OwnOuts w wz g' c' (toldL v.m v.ag (A - v.ag)) gs cs∧Chg w wz B v { v with hs:=hs',ag:=A }):=fun g c gs cs wz ho hb=>⟨g,c,gs,cs,rfl,ho,HC5.out.below hb⟩
      have HWZ:Hid (w.heap.size≤Z2.heap.size):=HC5.out.tch.size
      have HAL:Hid (A≤20):=by have:=HA.out;show _≤_;omega
      clear hkn h35 hme hpl hfl hag HB1 HL1 HV1 HBY HL f0 f5 hfr HC5
      have HAA:=hid hAA
      clear hAA
      go_loopw [6,7] (fun r p wr=>∃ (k:Nat) (g:Option Nat) (c:Nat) (gs:Nat→Option Nat) (cs:Nat→Nat),k≤A - v.ag∧p=.int .i64 (v.ag+k+1:Nat)∧r=.slice (g.map fun q=>⟨q,0,none⟩) k c∧Hid (OwnOuts w wr g c (toldL v.m v.ag k) gs cs)∧Hid (Below Z2.heap.size Z2 wr)∧Hid (∀ q,g=some q→Z2.heap.size≤q)) (fun _ p _=>A+1 - (intOf p).toNat)
      case atStart=>exact ⟨0,none,0,_,_,Nat.zero_le _,by go_num,rfl,OwnOuts.none_ _ _,Below.refl _ _,fun q e=>by cases e⟩
      case round =>
        obtain ⟨k,g,c,gs,cs,hk,rfl,rfl,HO,HB,HG⟩:=hrel
        have y9:wr.cell? ⟨B,9,none⟩=some (.int .i64 A):=cell_of_heap (HV5.out.below HB.out).blk 9
        by_cases hlt:v.ag+k < A
        · have b1:((v.ag+k+1:Nat):Int)≤(A:Int):=by omega
          have HT:=hid (TG.out wr k HB.out hlt)
          have HTS:=hid (toldL_succ v.m v.ag k)
          have HTL:=hid (toldL_len v.m v.ag k)
          have w1:IntKind.i64.wrap (((v.ag+k+1:Nat):Int)+1)=((v.ag+(k+1)+1:Nat):Int):=by rw [IntWalk.i64_left,IntWalk.wrap64_in _ (by have:=HAL.out;omega)];omega
          generalize packS ⟨9,0,v.m.view,(v.ag+k+1:Nat),0,0,⟨(v.m.ls.getD (v.ag+k) Ln.zero).c,(v.m.ls.getD (v.ag+k) Ln.zero).t,[]⟩,[]⟩=pb at *
          generalize (v.m.ls.getD (v.ag+k) Ln.zero).c=tc at *
          generalize hJ:((v.ag+k+1:Nat):Int)=J at *
          have HJ:=hid hJ
          clear hJ
          go_wp2_with fail
          refine HT.out.mono ?_
          rintro e x1 ⟨gb,cb,rfl,hob,hb1⟩
          have HB1:=hid hb1
          have HOB:=hid hob
          have HOW:Hid (OwnRow (x1.alloc (.cells #[.bool true,.int .i64 tc,.slice (gb.map fun q=>⟨q,0,none⟩) pb.length cb] 71)) 71 3 g k c):=by
            have:=(HO.out.below hb1).own.alloc (.cells #[.bool true,.int .i64 tc,.slice (gb.map fun q=>⟨q,0,none⟩) pb.length cb] 71)
            rw [HTL.out] at this;exact this
          have k20:k≤20:=by have:=HAL.out;omega
          clear hob hb1 HT
          unfold sl
          go_wp2_with (at_builtin;refine wpList_app _ rfl (.tmp 53) (.tmp 57) 54 rfl 71 io (.agg #[.bool false,.int .i64 0,.slice none 0 0]) 3 40 Tryz.underlying54 hio hio0 hio1 hio2 rfl g k c (by rfl) HOW.out ⟨x1.heap.size,0,none⟩ 1 1 [.bool true,.int .i64 tc,.slice (gb.map fun q=>⟨q,0,none⟩) pb.length cb] rfl rfl ?c1 ?c2 (by omega) (by omega) (by omega) ?_)
          case c1=>exact World.news_of_block (heap_alloc_new x1 _)
          case c2=>intro u hu;simp at hu;rcases hu with rfl | rfl | rfl <;> rfl
          intro g2 c2 w3 Q
          have HA2:=hid (OwnOuts.app1 (x:=⟨true,tc,pb⟩) HO.out (Nat.le_trans HWZ.out HB.out.size) HTL.out HB1.out HOB.out Q)
          have HBX:Hid (Below Z2.heap.size Z2 w3):=(HB.out.trans ((HB1.out.alloc HB1.out.size _).mono HB.out.size)).trans (Q.touch.below (by rw [World.size_alloc];have:=HB.out.size;have:=HB1.out.size;omega) (fun j _ e=>HG.out j e))
          have HG2:Hid (∀ q,some g2=some q→Z2.heap.size≤q):=fun q e=>by
            have e:=Option.some.inj e
            subst e
            rcases Q.lies with q | q
            · exact HG.out _ q
            · rw [World.size_alloc] at q;have:=HB.out.size;have:=HB1.out.size;omega
          clear Q
          go_wp2
          go_roundw
          case rel=>exact ⟨k+1,some g2,c2,_,_,by omega,rfl,rfl,by rw [HTS.out];exact HA2.out,HBX,HG2⟩
          case measure=>have:=HJ.out;simp [intOf];omega
        · have hkn:k=A - v.ag:=by have:=HAG.out;omega
          have b1:¬ (((v.ag+k+1:Nat):Int)≤(A:Int)):=by have:=HAG.out;omega
          subst hkn
          generalize hJ:((v.ag+(A - v.ag)+1:Nat):Int)=J at *
          clear hJ TG
          have HF2:=hid (HFIN.out g c gs cs wr HO.out HB.out)
          clear HFIN
          go_wp2
          go_ret
          have e:=HAA.out
          subst e
          obtain ⟨g',c',gs',cs',k1,k2,k3⟩:=HF2.out
          first
          | exact ⟨g',c',gs',cs',k1,k2,k3⟩
          | exact ⟨g',c',k1,gs',cs',k2,k3⟩
          | exact ⟨g',c',k1,⟨gs',cs',k2⟩,k3⟩
  · have hmx:max y pl=y:=by omega
    rw [hmx] at HC2 HHS
    clear hmx
    go_wp2
    go_still_tail 17,(by kernel_rfl)
    go_wp2_with fail
    have HC3:Hid (Chg w (X1.setCell ⟨B,10+fr.toNat,none⟩ (.int .i64 y)).drew B v { v with hs:=hs' }):=by
      have:=(Chg.of HB1.out HV.out HC2.out).below ((Below.refl _ _).drew)
      rw [← HHS.out] at this
      exact this
    clear HC2 HHS q9 fB n9 n9' hc s0 s2 hy hm
    generalize (X1.setCell ⟨B,10+fr.toNat,none⟩ (.int .i64 y)).drew=Z at *
    have HF:=hid (heldByFewV _ B Z HC3.out.at_ n hkn h35 hme)
    dsimp only at HF
    rw [HHF.out] at HF
    refine HF.out.mono ?_
    rintro e X3 ⟨rfl,hb3⟩
    have HC4:=hid (HC3.out.below hb3)
    clear hb3 HF HC3 HHF
    have r9:X3.cell? ⟨B,9,none⟩=some (.int .i64 v.ag):=cell_of_heap HC4.out.at_.blk 9
    have f3:∀ j,X3.frozen? ⟨B,j,none⟩=false:=fun j=>frozen_of_heap HC4.out.at_.blk j
    have HC5:Hid (Chg w (X3.setCell ⟨B,9,none⟩ (.int .i64 (max v.ag hf:Nat))) B v { v with hs:=hs',ag:=max v.ag hf }):=HC4.out.trans (HC4.out.at_.setAg (max v.ag hf))
    have hW:Hid ((hf≤v.ag∧X3.setCell ⟨B,9,none⟩ (.int .i64 v.ag)=X3.setCell ⟨B,9,none⟩ (.int .i64 (max v.ag hf:Nat)))∨(v.ag < hf∧X3.setCell ⟨B,9,none⟩ (.int .i64 hf)=X3.setCell ⟨B,9,none⟩ (.int .i64 (max v.ag hf:Nat)))):=by
      rcases Nat.lt_or_ge v.ag hf with q | q
      · exact .inr ⟨q,by rw [show max v.ag hf=hf from by omega]⟩
      · exact .inl ⟨q,by rw [show max v.ag hf=v.ag from by omega]⟩
    have HA:Hid (max v.ag hf≤v.m.ls.length):=by show _≤_;omega
    have HAG:Hid (v.ag≤max v.ag hf):=by show _≤_;omega
    rcases hW.out with ⟨hc1,hc2⟩ | ⟨hc1,hc2⟩
    all_goals
      have g1:(v.ag:Int) < (hf:Int)∨¬ ((v.ag:Int) < (hf:Int)):=by omega
      have HC2':=hid hc2
      clear hc2 hW g1
      first
      | (have c1 : ¬ ((v.ag : Int) < (hf : Int)) := by omega
         clear hc1)
      | (have c1 : (v.ag : Int) < (hf : Int) := by omega
         clear hc1)
      go_wp2
      rw [HC2'.out]
      clear HC2' r9 f3 c1 HC4
      generalize X3.setCell ⟨B,9,none⟩ (.int .i64 (max v.ag hf:Nat))=Z2 at *
      have HV5:=hid HC5.out.at_
      obtain ⟨io,hio,hio0,hio1,hio2⟩:=info_parts Tryz.info71
      generalize hAA:max v.ag hf=A at *
      have TG:Hid (∀ z k,Below Z2.heap.size Z2 z→v.ag+k < A→Calls Tryz.prog 162 #[.pointer (some ⟨B,0,none⟩),.int .i64 (v.ag+k+1:Nat)] z (OutRet z true (v.m.ls.getD (v.ag+k) Ln.zero).c (packS ⟨9,0,v.m.view,(v.ag+k+1:Nat),0,0,⟨(v.m.ls.getD (v.ag+k) Ln.zero).c,(v.m.ls.getD (v.ag+k) Ln.zero).t,[]⟩,[]⟩))):=fun z k hz hk=>toldG _ B z (HV5.out.below hz) (v.ag+k) (by have:=HA.out;show v.ag+k < v.m.ls.length;omega) h20
      unfold OutRet at TG
      have HFIN:Hid (∀ g c gs cs wz,OwnOuts w wz g c (toldL v.m v.ag (A - v.ag)) gs cs→Below Z2.heap.size Z2 wz→∃ g' c' gs cs,Ending.returned (.slice (g.map fun q=>⟨q,0,none⟩) (A - v.ag) c)=.returned (sl g' (A - v.ag) c')∧OwnOuts w wz g' c' (toldL v.m v.ag (A - v.ag)) gs cs∧Chg w wz B v { v with hs:=hs',ag:=A }):=fun g c gs cs wz ho hb=>⟨g,c,gs,cs,rfl,ho,HC5.out.below hb⟩
      have HWZ:Hid (w.heap.size≤Z2.heap.size):=HC5.out.tch.size
      have HAL:Hid (A≤20):=by have:=HA.out;show _≤_;omega
      clear hkn h35 hme hpl hfl hag HB1 HL1 HV1 HBY HL f0 f5 hfr HC5
      have HAA:=hid hAA
      clear hAA
      go_loopw [6,7] (fun r p wr=>∃ (k:Nat) (g:Option Nat) (c:Nat) (gs:Nat→Option Nat) (cs:Nat→Nat),k≤A - v.ag∧p=.int .i64 (v.ag+k+1:Nat)∧r=.slice (g.map fun q=>⟨q,0,none⟩) k c∧Hid (OwnOuts w wr g c (toldL v.m v.ag k) gs cs)∧Hid (Below Z2.heap.size Z2 wr)∧Hid (∀ q,g=some q→Z2.heap.size≤q)) (fun _ p _=>A+1 - (intOf p).toNat)
      case atStart=>exact ⟨0,none,0,_,_,Nat.zero_le _,by go_num,rfl,OwnOuts.none_ _ _,Below.refl _ _,fun q e=>by cases e⟩
      case round =>
        obtain ⟨k,g,c,gs,cs,hk,rfl,rfl,HO,HB,HG⟩:=hrel
        have y9:wr.cell? ⟨B,9,none⟩=some (.int .i64 A):=cell_of_heap (HV5.out.below HB.out).blk 9
        by_cases hlt:v.ag+k < A
        · have b1:((v.ag+k+1:Nat):Int)≤(A:Int):=by omega
          have HT:=hid (TG.out wr k HB.out hlt)
          have HTS:=hid (toldL_succ v.m v.ag k)
          have HTL:=hid (toldL_len v.m v.ag k)
          have w1:IntKind.i64.wrap (((v.ag+k+1:Nat):Int)+1)=((v.ag+(k+1)+1:Nat):Int):=by rw [IntWalk.i64_left,IntWalk.wrap64_in _ (by have:=HAL.out;omega)];omega
          generalize packS ⟨9,0,v.m.view,(v.ag+k+1:Nat),0,0,⟨(v.m.ls.getD (v.ag+k) Ln.zero).c,(v.m.ls.getD (v.ag+k) Ln.zero).t,[]⟩,[]⟩=pb at *
          generalize (v.m.ls.getD (v.ag+k) Ln.zero).c=tc at *
          generalize hJ:((v.ag+k+1:Nat):Int)=J at *
          have HJ:=hid hJ
          clear hJ
          go_wp2_with fail
          refine HT.out.mono ?_
          rintro e x1 ⟨gb,cb,rfl,hob,hb1⟩
          have HB1:=hid hb1
          have HOB:=hid hob
          have HOW:Hid (OwnRow (x1.alloc (.cells #[.bool true,.int .i64 tc,.slice (gb.map fun q=>⟨q,0,none⟩) pb.length cb] 71)) 71 3 g k c):=by
            have:=(HO.out.below hb1).own.alloc (.cells #[.bool true,.int .i64 tc,.slice (gb.map fun q=>⟨q,0,none⟩) pb.length cb] 71)
            rw [HTL.out] at this;exact this
          have k20:k≤20:=by have:=HAL.out;omega
          clear hob hb1 HT
          unfold sl
          go_wp2_with (at_builtin;refine wpList_app _ rfl (.tmp 53) (.tmp 57) 54 rfl 71 io (.agg #[.bool false,.int .i64 0,.slice none 0 0]) 3 40 Tryz.underlying54 hio hio0 hio1 hio2 rfl g k c (by rfl) HOW.out ⟨x1.heap.size,0,none⟩ 1 1 [.bool true,.int .i64 tc,.slice (gb.map fun q=>⟨q,0,none⟩) pb.length cb] rfl rfl ?c1 ?c2 (by omega) (by omega) (by omega) ?_)
          case c1=>exact World.news_of_block (heap_alloc_new x1 _)
          case c2=>intro u hu;simp at hu;rcases hu with rfl | rfl | rfl <;> rfl
          intro g2 c2 w3 Q
          have HA2:=hid (OwnOuts.app1 (x:=⟨true,tc,pb⟩) HO.out (Nat.le_trans HWZ.out HB.out.size) HTL.out HB1.out HOB.out Q)
          have HBX:Hid (Below Z2.heap.size Z2 w3):=(HB.out.trans ((HB1.out.alloc HB1.out.size _).mono HB.out.size)).trans (Q.touch.below (by rw [World.size_alloc];have:=HB.out.size;have:=HB1.out.size;omega) (fun j _ e=>HG.out j e))
          have HG2:Hid (∀ q,some g2=some q→Z2.heap.size≤q):=fun q e=>by
            have e:=Option.some.inj e
            subst e
            rcases Q.lies with q | q
            · exact HG.out _ q
            · rw [World.size_alloc] at q;have:=HB.out.size;have:=HB1.out.size;omega
          clear Q
          go_wp2
          go_roundw
          case rel=>exact ⟨k+1,some g2,c2,_,_,by omega,rfl,rfl,by rw [HTS.out];exact HA2.out,HBX,HG2⟩
          case measure=>have:=HJ.out;simp [intOf];omega
        · have hkn:k=A - v.ag:=by have:=HAG.out;omega
          have b1:¬ (((v.ag+k+1:Nat):Int)≤(A:Int)):=by have:=HAG.out;omega
          subst hkn
          generalize hJ:((v.ag+(A - v.ag)+1:Nat):Int)=J at *
          clear hJ TG
          have HF2:=hid (HFIN.out g c gs cs wr HO.out HB.out)
          clear HFIN
          go_wp2
          go_ret
          have e:=HAA.out
          subst e
          obtain ⟨g',c',gs',cs',k1,k2,k3⟩:=HF2.out
          first
          | exact ⟨g',c',gs',cs',k1,k2,k3⟩
          | exact ⟨g',c',k1,gs',cs',k2,k3⟩
          | exact ⟨g',c',k1,⟨gs',cs',k2⟩,k3⟩
def Fr.typed (f:Fr) (a:Option Addr) (cap:Nat):Value :=
  if f.kind=1 then .iface 149 (.agg #[.int .i64 f.line.c,.int .i64 f.line.t,.string ⟨f.line.s.toArray⟩])
  else if f.kind=2 then .iface 153 (.agg #[.int .i64 f.frm,.int .i64 f.view,.int .i64 f.place,.int .i64 f.agreed,.int .i64 f.line.c,.int .i64 f.line.t,.string ⟨f.line.s.toArray⟩])
  else if f.kind=3 then .iface 204 (.agg #[.int .i64 f.frm,.int .i64 f.view,.int .i64 f.place])
  else if f.kind=4 then .iface 156 (.agg #[.int .i64 f.frm,.int .i64 f.view,.int .i64 f.agreed])
  else if f.kind=5 then .iface 206 (.agg #[.int .i64 f.frm,.int .i64 f.view])
  else if f.kind=6 then .iface 208 (.agg #[.int .i64 f.frm,.int .i64 f.view,.int .i64 f.agreed,.int .i64 f.last,.slice a f.lines.length cap])
  else if f.kind=7 then .iface 158 (.agg #[.int .i64 f.frm,.int .i64 f.view,.int .i64 f.agreed,.slice a f.lines.length cap])
  else if f.kind=8 then .iface 209 (.agg #[.int .i64 f.frm,.int .i64 f.view])
  else .iface 211 (.agg #[.int .i64 f.view,.int .i64 f.place,.int .i64 f.line.c,.int .i64 f.line.t,.string ⟨f.line.s.toArray⟩])
theorem typed_go (f:Fr) (a:Option Addr) (cap:Nat) (w:World) (hk:1≤f.kind∧f.kind≤9):Calls Tryz.prog 78 #[f.val a cap] w fun e w'=>e=.returned (f.typed a cap)∧Below w.heap.size w w':=by
  obtain ⟨kind,frm,view,place,agreed,last,⟨c,t,s⟩,ls⟩:=f
  unfold Fr.val sla Fr.typed
  dsimp only at *
  have h9:kind=1∨kind=2∨kind=3∨kind=4∨kind=5∨kind=6∨kind=7∨kind=8∨kind=9:=by omega
  clear hk
  rcases h9 with rfl | rfl | rfl | rfl | rfl | rfl | rfl | rfl | rfl
  all_goals
    simp only [Int.reduceEq,if_true,if_false]
    go_enter Tryz.func78,Tryz.ntmps78
    go_wp2
    go_ret
    exact ⟨rfl,((Below.refl _ _).alloc (Nat.le_refl _) _).alloc (by rw [World.size_alloc];omega) _⟩
theorem unpackR_ok {b:List UInt8} {f:Fr} (h:unpackR b=some f):f.ok=true∧1≤f.kind∧f.kind≤9:=by
  unfold unpackR at h
  split at h
  · cases h
  · rename_i h1
    split at h
    · cases h
    · split at h
      · cases h
      · rename_i h2
        cases h
        have hk:(parseF b).kind=kindOf b:=rfl
        refine ⟨?_,by rw [hk];omega,by rw [hk];omega⟩
        cases hh:(parseF b).ok
        · exact absurd (.inl hh) h2
        · rfl
def ReadRet (w:World) (b:List UInt8) (e:Ending) (w':World):Prop :=
  Below w.heap.size w w'∧((unpackR b=none∧e=.returned (.tuple #[.nilIface,.bool false]))∨∃ f g c,unpackR b=some f∧e=.returned (.tuple #[f.typed (g.map fun k=>(⟨k,0,none⟩:Addr)) c,.bool true])∧OwnLines w w' g c f.lines)
theorem readF_go (g o cap:Nat) (b:List UInt8) (w:World) (hb:BytesIn w (some ⟨g,o,none⟩) b) (hn:b.length≤10000000) (hcap:b.length≤cap) :
    Calls Tryz.prog 40 #[.slice (some ⟨g,o,none⟩) b.length cap] w (ReadRet w b):=by
  have HU:=hid (framesUnpack_go g o cap b w hb hn hcap)
  clear hb
  cases hR:unpackR b with
  | none =>
    have HX:Hid (∀ w',Below w.heap.size w w'→ReadRet w b (.returned (.tuple #[.nilIface,.bool false])) w'):=fun w' h=>⟨h,.inl ⟨hR,rfl⟩⟩
    go_enter Tryz.func40,Tryz.ntmps40
    go_wp2_with fail
    refine HU.out.mono ?_
    rintro e w1 ⟨gl,cl,rfl,hol,hb1⟩
    rw [hR]
    have HB1:=hid hb1
    clear hol hb1 HU hR
    simp only [Option.isSome_none]
    generalize hfv:(unpackF b)=f
    obtain ⟨kind,frm,view,place,agreed,last,⟨c,t,s⟩,ls⟩:=f
    unfold Fr.val sla
    dsimp only
    go_wp2
    go_ret2
    exact HX.out _ (HB1.out.alloc HB1.out.size _)
  | some f =>
    have hk:=unpackR_ok hR
    have hF:unpackF b=f:=(un_yes hR).1
    have HX:Hid (∀ gl cl w',Below w.heap.size w w'→OwnLines w w' gl cl f.lines→ReadRet w b (.returned (.tuple #[f.typed (gl.map fun k=>(⟨k,0,none⟩:Addr)) cl,.bool true])) w'):=fun gl cl w' h h2=>⟨h,.inr ⟨f,gl,cl,hR,rfl,h2⟩⟩
    have TG:Hid (∀ a cp z,Calls Tryz.prog 78 #[f.val a cp] z fun e w'=>e=.returned (f.typed a cp)∧Below z.heap.size z w'):=fun a cp z=>typed_go f a cp z hk.2
    go_enter Tryz.func40,Tryz.ntmps40
    go_wp2_with fail
    refine HU.out.mono ?_
    rintro e w1 ⟨gl,cl,rfl,hol,hb1⟩
    rw [hR]
    rw [hF] at hol ⊢
    have HB1:=hid hb1
    have HOL:=hid hol
    clear hol hb1 HU hR hk hF
    simp only [Option.isSome_some]
    obtain ⟨kind,frm,view,place,agreed,last,⟨c,t,s⟩,ls⟩:=f
    have HT1:=hid (TG.out (gl.map fun k=>(⟨k,0,none⟩:Addr)) cl)
    unfold Fr.val sla at HT1 ⊢
    dsimp only at HT1 ⊢
    have HX2:=hid (HX.out gl cl)
    clear HX TG
    generalize Fr.typed _ _ _=tv at *
    go_wp2_with fail
    refine (HT1.out _).mono ?_
    rintro e w2 ⟨rfl,hb2⟩
    rw [World.size_alloc] at hb2
    have HB2:Hid (Below w.heap.size w w2):=(HB1.out.alloc HB1.out.size _).trans (hb2.mono (by have:=HB1.out.size;omega))
    have HO2:Hid (OwnLines w w2 gl cl ls):=(HOL.out.below ((Below.refl _ _).alloc (Nat.le_refl _) _)).below (by rw [World.size_alloc];exact hb2)
    clear hb2 HT1
    go_wp2
    go_ret2
    exact HX2.out _ HB2.out HO2.out
end
section
open Go.RowKit
/-! What a frame's type is asked for: closed facts. -/
theorem taSaySayFrame (v:Value) (w:World):(Instr.typeAssert (.iface 149 v) 105 149 true).run Tryz.prog w=.ok (.tuple #[v,.bool true]) w:=by kernel_rfl
theorem taPrepareSayFrame (v:Value) (w:World):(Instr.typeAssert (.iface 153 v) 105 149 true).run Tryz.prog w=.ok (.tuple #[.agg #[.int .i64 0,.int .i64 0,.string ⟨#[]⟩],.bool false]) w:=by kernel_rfl
theorem taPreparePrepareFrame (v:Value) (w:World):(Instr.typeAssert (.iface 153 v) 105 153 true).run Tryz.prog w=.ok (.tuple #[v,.bool true]) w:=by kernel_rfl
theorem taPreparePrepareOfKeeper (v:Value) (w:World):(Instr.typeAssert (.iface 153 v) 160 153 true).run Tryz.prog w=.ok (.tuple #[v,.bool true]) w:=by kernel_rfl
theorem taPrepareOf (v:Value) (w:World):(Instr.typeAssert (.iface 153 v) 105 160 true).run Tryz.prog w=.ok (.tuple #[.iface 153 v,.bool true]) w:=by kernel_rfl
theorem taHoldSayFrame (v:Value) (w:World):(Instr.typeAssert (.iface 204 v) 105 149 true).run Tryz.prog w=.ok (.tuple #[.agg #[.int .i64 0,.int .i64 0,.string ⟨#[]⟩],.bool false]) w:=by kernel_rfl
theorem taHoldPrepareFrame (v:Value) (w:World):(Instr.typeAssert (.iface 204 v) 105 153 true).run Tryz.prog w=.ok (.tuple #[.agg #[.int .i64 0,.int .i64 0,.int .i64 0,.int .i64 0,.int .i64 0,.int .i64 0,.string ⟨#[]⟩],.bool false]) w:=by kernel_rfl
theorem taHoldPrepareOfKeeper (v:Value) (w:World):(Instr.typeAssert (.iface 204 v) 160 153 true).run Tryz.prog w=.ok (.tuple #[.agg #[.int .i64 0,.int .i64 0,.int .i64 0,.int .i64 0,.int .i64 0,.int .i64 0,.string ⟨#[]⟩],.bool false]) w:=by kernel_rfl
theorem taHoldHoldOfKeeper (v:Value) (w:World):(Instr.typeAssert (.iface 204 v) 160 204 true).run Tryz.prog w=.ok (.tuple #[v,.bool true]) w:=by kernel_rfl
theorem taHoldBeatFrame (v:Value) (w:World):(Instr.typeAssert (.iface 204 v) 105 156 true).run Tryz.prog w=.ok (.tuple #[.agg #[.int .i64 0,.int .i64 0,.int .i64 0],.bool false]) w:=by kernel_rfl
theorem taHoldBeatOfKeeper (v:Value) (w:World):(Instr.typeAssert (.iface 204 v) 160 156 true).run Tryz.prog w=.ok (.tuple #[.agg #[.int .i64 0,.int .i64 0,.int .i64 0],.bool false]) w:=by kernel_rfl
theorem taHoldBeginFrame (v:Value) (w:World):(Instr.typeAssert (.iface 204 v) 105 158 true).run Tryz.prog w=.ok (.tuple #[.agg #[.int .i64 0,.int .i64 0,.int .i64 0,.slice none 0 0],.bool false]) w:=by kernel_rfl
theorem taHoldBeginOfKeeper (v:Value) (w:World):(Instr.typeAssert (.iface 204 v) 160 158 true).run Tryz.prog w=.ok (.tuple #[.agg #[.int .i64 0,.int .i64 0,.int .i64 0,.slice none 0 0],.bool false]) w:=by kernel_rfl
theorem taHoldOf (v:Value) (w:World):(Instr.typeAssert (.iface 204 v) 105 160 true).run Tryz.prog w=.ok (.tuple #[.iface 204 v,.bool true]) w:=by kernel_rfl
theorem taBeatSayFrame (v:Value) (w:World):(Instr.typeAssert (.iface 156 v) 105 149 true).run Tryz.prog w=.ok (.tuple #[.agg #[.int .i64 0,.int .i64 0,.string ⟨#[]⟩],.bool false]) w:=by kernel_rfl
theorem taBeatPrepareFrame (v:Value) (w:World):(Instr.typeAssert (.iface 156 v) 105 153 true).run Tryz.prog w=.ok (.tuple #[.agg #[.int .i64 0,.int .i64 0,.int .i64 0,.int .i64 0,.int .i64 0,.int .i64 0,.string ⟨#[]⟩],.bool false]) w:=by kernel_rfl
theorem taBeatPrepareOfKeeper (v:Value) (w:World):(Instr.typeAssert (.iface 156 v) 160 153 true).run Tryz.prog w=.ok (.tuple #[.agg #[.int .i64 0,.int .i64 0,.int .i64 0,.int .i64 0,.int .i64 0,.int .i64 0,.string ⟨#[]⟩],.bool false]) w:=by kernel_rfl
theorem taBeatBeatFrame (v:Value) (w:World):(Instr.typeAssert (.iface 156 v) 105 156 true).run Tryz.prog w=.ok (.tuple #[v,.bool true]) w:=by kernel_rfl
theorem taBeatBeatOfKeeper (v:Value) (w:World):(Instr.typeAssert (.iface 156 v) 160 156 true).run Tryz.prog w=.ok (.tuple #[v,.bool true]) w:=by kernel_rfl
theorem taBeatOf (v:Value) (w:World):(Instr.typeAssert (.iface 156 v) 105 160 true).run Tryz.prog w=.ok (.tuple #[.iface 156 v,.bool true]) w:=by kernel_rfl
theorem taBeginSayFrame (v:Value) (w:World):(Instr.typeAssert (.iface 158 v) 105 149 true).run Tryz.prog w=.ok (.tuple #[.agg #[.int .i64 0,.int .i64 0,.string ⟨#[]⟩],.bool false]) w:=by kernel_rfl
theorem taBeginPrepareFrame (v:Value) (w:World):(Instr.typeAssert (.iface 158 v) 105 153 true).run Tryz.prog w=.ok (.tuple #[.agg #[.int .i64 0,.int .i64 0,.int .i64 0,.int .i64 0,.int .i64 0,.int .i64 0,.string ⟨#[]⟩],.bool false]) w:=by kernel_rfl
theorem taBeginPrepareOfKeeper (v:Value) (w:World):(Instr.typeAssert (.iface 158 v) 160 153 true).run Tryz.prog w=.ok (.tuple #[.agg #[.int .i64 0,.int .i64 0,.int .i64 0,.int .i64 0,.int .i64 0,.int .i64 0,.string ⟨#[]⟩],.bool false]) w:=by kernel_rfl
theorem taBeginBeatFrame (v:Value) (w:World):(Instr.typeAssert (.iface 158 v) 105 156 true).run Tryz.prog w=.ok (.tuple #[.agg #[.int .i64 0,.int .i64 0,.int .i64 0],.bool false]) w:=by kernel_rfl
theorem taBeginBeatOfKeeper (v:Value) (w:World):(Instr.typeAssert (.iface 158 v) 160 156 true).run Tryz.prog w=.ok (.tuple #[.agg #[.int .i64 0,.int .i64 0,.int .i64 0],.bool false]) w:=by kernel_rfl
theorem taBeginBeginFrame (v:Value) (w:World):(Instr.typeAssert (.iface 158 v) 105 158 true).run Tryz.prog w=.ok (.tuple #[v,.bool true]) w:=by kernel_rfl
theorem taBeginBeginOfKeeper (v:Value) (w:World):(Instr.typeAssert (.iface 158 v) 160 158 true).run Tryz.prog w=.ok (.tuple #[v,.bool true]) w:=by kernel_rfl
theorem taBeginOf (v:Value) (w:World):(Instr.typeAssert (.iface 158 v) 105 160 true).run Tryz.prog w=.ok (.tuple #[.iface 158 v,.bool true]) w:=by kernel_rfl
theorem taLagSayFrame (v:Value) (w:World):(Instr.typeAssert (.iface 209 v) 105 149 true).run Tryz.prog w=.ok (.tuple #[.agg #[.int .i64 0,.int .i64 0,.string ⟨#[]⟩],.bool false]) w:=by kernel_rfl
theorem taLagPrepareFrame (v:Value) (w:World):(Instr.typeAssert (.iface 209 v) 105 153 true).run Tryz.prog w=.ok (.tuple #[.agg #[.int .i64 0,.int .i64 0,.int .i64 0,.int .i64 0,.int .i64 0,.int .i64 0,.string ⟨#[]⟩],.bool false]) w:=by kernel_rfl
theorem taLagPrepareOfKeeper (v:Value) (w:World):(Instr.typeAssert (.iface 209 v) 160 153 true).run Tryz.prog w=.ok (.tuple #[.agg #[.int .i64 0,.int .i64 0,.int .i64 0,.int .i64 0,.int .i64 0,.int .i64 0,.string ⟨#[]⟩],.bool false]) w:=by kernel_rfl
theorem taLagHoldOfKeeper (v:Value) (w:World):(Instr.typeAssert (.iface 209 v) 160 204 true).run Tryz.prog w=.ok (.tuple #[.agg #[.int .i64 0,.int .i64 0,.int .i64 0],.bool false]) w:=by kernel_rfl
theorem taLagBeatFrame (v:Value) (w:World):(Instr.typeAssert (.iface 209 v) 105 156 true).run Tryz.prog w=.ok (.tuple #[.agg #[.int .i64 0,.int .i64 0,.int .i64 0],.bool false]) w:=by kernel_rfl
theorem taLagBeatOfKeeper (v:Value) (w:World):(Instr.typeAssert (.iface 209 v) 160 156 true).run Tryz.prog w=.ok (.tuple #[.agg #[.int .i64 0,.int .i64 0,.int .i64 0],.bool false]) w:=by kernel_rfl
theorem taLagChangeOfKeeper (v:Value) (w:World):(Instr.typeAssert (.iface 209 v) 160 206 true).run Tryz.prog w=.ok (.tuple #[.agg #[.int .i64 0,.int .i64 0],.bool false]) w:=by kernel_rfl
theorem taLagYieldOfKeeper (v:Value) (w:World):(Instr.typeAssert (.iface 209 v) 160 208 true).run Tryz.prog w=.ok (.tuple #[.agg #[.int .i64 0,.int .i64 0,.int .i64 0,.int .i64 0,.slice none 0 0],.bool false]) w:=by kernel_rfl
theorem taLagBeginFrame (v:Value) (w:World):(Instr.typeAssert (.iface 209 v) 105 158 true).run Tryz.prog w=.ok (.tuple #[.agg #[.int .i64 0,.int .i64 0,.int .i64 0,.slice none 0 0],.bool false]) w:=by kernel_rfl
theorem taLagBeginOfKeeper (v:Value) (w:World):(Instr.typeAssert (.iface 209 v) 160 158 true).run Tryz.prog w=.ok (.tuple #[.agg #[.int .i64 0,.int .i64 0,.int .i64 0,.slice none 0 0],.bool false]) w:=by kernel_rfl
theorem taLagLagOfKeeper (v:Value) (w:World):(Instr.typeAssert (.iface 209 v) 160 209 true).run Tryz.prog w=.ok (.tuple #[v,.bool true]) w:=by kernel_rfl
theorem taLagOf (v:Value) (w:World):(Instr.typeAssert (.iface 209 v) 105 160 true).run Tryz.prog w=.ok (.tuple #[.iface 209 v,.bool true]) w:=by kernel_rfl
theorem taToldSayFrame (v:Value) (w:World):(Instr.typeAssert (.iface 211 v) 105 149 true).run Tryz.prog w=.ok (.tuple #[.agg #[.int .i64 0,.int .i64 0,.string ⟨#[]⟩],.bool false]) w:=by kernel_rfl
theorem taToldPrepareFrame (v:Value) (w:World):(Instr.typeAssert (.iface 211 v) 105 153 true).run Tryz.prog w=.ok (.tuple #[.agg #[.int .i64 0,.int .i64 0,.int .i64 0,.int .i64 0,.int .i64 0,.int .i64 0,.string ⟨#[]⟩],.bool false]) w:=by kernel_rfl
theorem taToldBeatFrame (v:Value) (w:World):(Instr.typeAssert (.iface 211 v) 105 156 true).run Tryz.prog w=.ok (.tuple #[.agg #[.int .i64 0,.int .i64 0,.int .i64 0],.bool false]) w:=by kernel_rfl
theorem taToldBeginFrame (v:Value) (w:World):(Instr.typeAssert (.iface 211 v) 105 158 true).run Tryz.prog w=.ok (.tuple #[.agg #[.int .i64 0,.int .i64 0,.int .i64 0,.slice none 0 0],.bool false]) w:=by kernel_rfl
end
end Go.Proofs.YtolififimldmlaaGreat
