import Derived.Test.YtolififimldmlaaGreatPart34
set_option linter.unusedVariables false
set_option linter.unusedSimpArgs false
set_option maxRecDepth 100000
set_option maxHeartbeats 16000000
namespace Go.Proofs.YtolififimldmlaaGreat
section
open Go.RowKit
attribute [local go_sem ↓] Go.wp_at_zero Go.wp_at_succ
structure RV.Lead (v:RV):Prop where
  kp:v.kp=3∨v.kp=5
  view:v.m.view=0
  last:v.m.last=0
  dead:v.dead=false
  l20:v.m.ls.length≤20
  ag:v.ag≤v.m.ls.length
  dl:v.d.length≤9900000
  arm:0≤v.arm∧v.arm≤9223372036854775807
  os:v.os=[]
section
variable (v:RV) (B:Nat) (w:World) (h:v.At w B)
include h
theorem refSayNot (hl:v.Lead) (hme:¬ 0=v.me) (l:Ln):Calls Tryz.prog 102 #[.pointer (some ⟨B,0,none⟩),.agg #[.int .i64 l.c,.int .i64 l.t,.string ⟨l.s.toArray⟩]] w fun e w'=>e=.returned (.tuple #[])∧RChg w w' B v v:=by
  have HI:Hid (∀ z,Below w.heap.size w z→Calls Tryz.prog 105 #[.pointer (some ⟨B,0,none⟩)] z fun e w'=>e=.returned (.bool true)∧Below z.heap.size z w'):=fun z hz=>by
    have:=refIn v B z (h.below hz)
    rw [hl.view,hl.last] at this
    exact this
  have HD:Hid (∀ z,Below w.heap.size w z→Calls Tryz.prog 106 #[.pointer (some ⟨B,0,none⟩)] z fun e w'=>e=.returned (.bool false)∧Below z.heap.size z w'):=fun z hz=>by
    have:=refLeads v B z (h.below hz) hl.kp hl.view
    rw [decide_eq_false hme] at this
    exact this
  have HV:=hid h
  clear h hl hme
  go_enter Tryz.func102,Tryz.ntmps102
  go_wp2_with fail
  refine (HI.out _ ((Below.refl _ _).alloc (Nat.le_refl _) _)).mono ?_
  rintro e X1 ⟨rfl,hb1⟩
  have HB1:Hid (Below w.heap.size w X1):=((Below.refl _ w).alloc (Nat.le_refl _) _).trans (hb1.mono (by simp))
  clear hb1
  go_wp2_with fail
  refine (HD.out _ HB1.out).mono ?_
  rintro e X2 ⟨rfl,hb2⟩
  have HB2:=hid (HB1.out.trans (hb2.mono HB1.out.size))
  clear hb2
  go_wp2
  refine bodyPost_ret (v:=.tuple #[]) ?_ rfl ⟨rfl,RChg.same HV.out HB2.out⟩
  simp [results,Tryz.results102]
theorem refSay (Q:Ending→World→Prop) (hl:v.Lead) (hme:v.me=0) (n:Nat) (hkn:v.kp=n) (l:Ln) (hls:l.s.length≤8)
    (H1:l.t≤turnOf v.m.ls l.c→∀ y g c,RChg w y B v (v.pushAll (tellsN v.m l v.ag) g c)→Q (.returned (.tuple #[])) y)
    (H2:turnOf v.m.ls l.c < l.t→20≤v.m.ls.length→∀ y,RChg w y B v v→Q (.returned (.tuple #[])) y)
    (H3:turnOf v.m.ls l.c < l.t→v.m.ls.length < 20→v.arm=1→∀ y,RChg w y B v { v with dead:=true,lost:=recBytes (1 :: lineBytes l) }→Q (.returned (.tuple #[])) y)
    (H4:turnOf v.m.ls l.c < l.t→v.m.ls.length < 20→v.arm≠1→∀ y g c g' c',RChg w y B v ((v.more l (armNext v.arm) g c).pushAll ((othersL v.me n).map fun t=>⟨false,t,packS ⟨2,v.me,v.m.view,(v.m.ls.length+1:Nat),v.ag,0,l,[]⟩⟩) g' c')→Q (.returned (.tuple #[])) y) :
    Calls Tryz.prog 102 #[.pointer (some ⟨B,0,none⟩),.agg #[.int .i64 l.c,.int .i64 l.t,.string ⟨l.s.toArray⟩]] w Q:=by
  have HI:Hid (∀ z,Below w.heap.size w z→Calls Tryz.prog 105 #[.pointer (some ⟨B,0,none⟩)] z fun e w'=>e=.returned (.bool true)∧Below z.heap.size z w'):=fun z hz=>by
    have:=refIn v B z (h.below hz)
    rw [hl.view,hl.last] at this
    exact this
  have HD:Hid (∀ z,Below w.heap.size w z→Calls Tryz.prog 106 #[.pointer (some ⟨B,0,none⟩)] z fun e w'=>e=.returned (.bool true)∧Below z.heap.size z w'):=fun z hz=>by
    have:=refLeads v B z (h.below hz) hl.kp hl.view
    rw [decide_eq_true hme.symm] at this
    exact this
  have HV:=hid h
  have HL:=hid hl
  have HME:=hid hme
  have HKN:=hid hkn
  have h20:=hl.l20
  have HTU:Hid (∀ z,Below w.heap.size w z→Calls Tryz.prog 149 #[.slice (v.g.map fun k=>⟨k,0,none⟩) v.m.ls.length v.c,.int .i64 l.c] z fun e w'=>e=.returned (.int .i64 (turnOf v.m.ls l.c))∧Below z.heap.size z w'):=fun z hz=>(turn_any (v.g.map fun k=>(⟨k,0,none⟩:Addr)) v.c v.m.ls l.c z ((h.below hz).ls) (by omega)).mono (fun e w' hh=>⟨hh.1,by rw [hh.2];exact Below.refl _ _⟩)
  have G1:=hid H1
  have G2:=hid H2
  have G3:=hid H3
  have G4:=hid H4
  clear h hl hme H1 H2 H3 H4 hkn
  go_enter Tryz.func102,Tryz.ntmps102
  go_wp2_with fail
  refine (HI.out _ ((Below.refl _ _).alloc (Nat.le_refl _) _)).mono ?_
  rintro e X1 ⟨rfl,hb1⟩
  have HB1:Hid (Below w.heap.size w X1):=((Below.refl _ w).alloc (Nat.le_refl _) _).trans (hb1.mono (by simp))
  have HM1:Hid (MBox w.heap.size 27 (.int .i64 l.c) (.int .i64 l.t) (.string ⟨l.s.toArray⟩) X1):=(hb1.block _ (by simp)).trans (heap_alloc_new w _)
  clear hb1
  go_wp2_with fail
  refine (HD.out _ HB1.out).mono ?_
  rintro e X2 ⟨rfl,hb2⟩
  have HB2:=hid (HB1.out.trans (hb2.mono HB1.out.size))
  have HM2:=hid ((hb2.block _ (heap_lt HM1.out)).trans HM1.out)
  clear hb2 HM1 HB1 HI HD
  have HV2:=hid (HV.out.below HB2.out)
  go_wp2
  have Q9:Hid (X2.cell? ⟨B,9,none⟩=some (.slice (v.g.map fun k=>⟨k,0,none⟩) v.m.ls.length v.c)):=cell_of_heap HV2.out.blk 9
  have Q0:Hid (X2.cell? ⟨w.heap.size,0,none⟩=some (.int .i64 l.c)):=cell_of_heap HM2.out 0
  have Q1:Hid (X2.cell? ⟨w.heap.size,1,none⟩=some (.int .i64 l.t)):=cell_of_heap HM2.out 1
  have hS0:(fun z:World=>Below X2.heap.size X2 z∧z.cell? ⟨B,9,none⟩=some (.slice (v.g.map fun k=>⟨k,0,none⟩) v.m.ls.length v.c)∧z.cell? ⟨w.heap.size,0,none⟩=some (.int .i64 l.c)∧z.cell? ⟨w.heap.size,1,none⟩=some (.int .i64 l.t)) X2.drew:=⟨(Below.refl _ _).drew,Q9.out,Q0.out,Q1.out⟩
  refine wp_region_held_drew (S:=fun z:World=>Below X2.heap.size X2 z∧z.cell? ⟨B,9,none⟩=some (.slice (v.g.map fun k=>⟨k,0,none⟩) v.m.ls.length v.c)∧z.cell? ⟨w.heap.size,0,none⟩=some (.int .i64 l.c)∧z.cell? ⟨w.heap.size,1,none⟩=some (.int .i64 l.t)) (by kernel_rfl) hS0 (fun hS=>?_)
  clear hS0
  refine tH 0 hS ?_
  try simp only [lA,lB,lC,Act.put,lD,lE,lF]
  refine tH 1 hS ?_
  try simp only [lA,lB,lC,Act.put,lD,lE,lF]
  refine tH 2 hS ?_
  try simp only [lA,lB,lC,Act.put,lD,lE,lF]
  refine tH 3 hS ?_
  try simp only [lA,lB,lC,Act.put,lD,lE,lF]
  refine tH 5 hS ?_
  try simp only [lA,lB,lC,Act.put,lD,lE,lF]
  refine tH 8 hS ?_
  try simp only [lA,lB,lC,Act.put,lD,lE,lF]
  refine tH 4 hS ?_ (hy:=by (intro w hw;obtain ⟨_,s0,s1,s2⟩:=hw;go_simp;try with_reducible rfl))
  try simp only [lA,lB,lC,Act.put,lD,lE,lF]
  refine tH 6 hS ?_ (hy:=by (intro w hw;obtain ⟨_,s0,s1,s2⟩:=hw;go_simp;try with_reducible rfl))
  try simp only [lA,lB,lC,Act.put,lD,lE,lF]
  refine tH 9 hS ?_ (hy:=by (intro w hw;obtain ⟨_,s0,s1,s2⟩:=hw;go_simp;try with_reducible rfl))
  try simp only [lA,lB,lC,Act.put,lD,lE,lF]
  refine wpAnyH_ready (rs:=[7]) (by kernel_rfl) (by simp) ?_
  refine AllReadyH.cons rfl (fun K hK=>?_) AllReadyH.nil
  go_simp
  refine (HTU.out _ (HB2.out.trans (hS.1.mono HB2.out.size))).mono ?_
  rintro e X3 ⟨rfl,hb3⟩
  have hb13:=hS.1.trans (hb3.mono hS.1.size)
  refine hK.out _ _ ⟨hb13,(Below.cell hb13 (World.block_lt_of_cell? _ _ Q9.out)).trans Q9.out,(Below.cell hb13 (World.block_lt_of_cell? _ _ Q0.out)).trans Q0.out,(Below.cell hb13 (World.block_lt_of_cell? _ _ Q1.out)).trans Q1.out⟩ (fun hS=>?_)
  clear hK K hb3
  refine tH 10 hS ?_
  try simp only [lA,lB,lC,Act.put,lD,lE,lF]
  refine wpAnyH_done (by kernel_rfl) ?_ _
  have HB3:=hid (HB2.out.trans (hb13.mono HB2.out.size))
  have HM3:=hid ((hb13.block _ (heap_lt HM2.out)).trans HM2.out)
  have HV3:=hid (HV.out.below HB3.out)
  clear hb13 hS Q9 Q0 Q1 HM2 HB2 HV2 HTU
  generalize hT:turnOf v.m.ls l.c=T at *
  clear hT
  rcases Int.lt_or_le T l.t with h1 | h1
  · have h1':¬ l.t≤T:=by omega
    have x9:X3.cell? ⟨B,9,none⟩=some (.slice (v.g.map fun k=>⟨k,0,none⟩) v.m.ls.length v.c):=cell_of_heap HV3.out.blk 9
    rcases Nat.lt_or_ge v.m.ls.length 20 with h2 | h2
    · have h2':¬ (20:Int)≤(v.m.ls.length:Int):=by omega
      obtain ⟨m0,m1,m2,fm⟩:=mbox_cells HM3.out
      by_cases ha:v.arm=1
      · have HMF:=hid (refMoreFail v B X3 HV3.out HL.out.dead ha l hls)
        have HA:=hid ha
        clear ha
        go_wp2_with fail
        refine HMF.out.mono ?_
        rintro e X4 ⟨rfl,hch⟩
        have HCH:=hid (RChg.of HB3.out HV.out hch)
        clear hch
        go_wp2
        go_end0
        exact G3.out h1 h2 HA.out _ HCH.out
      · have HMO:=hid (refMoreOk v B X3 HV3.out HL.out.dead (armNext v.arm) (by unfold armNext;have:=HL.out.arm;split <;> omega) HL.out.dl (by omega) l hls)
        have HA:=hid ha
        clear ha
        go_wp2_with fail
        refine HMO.out.mono ?_
        rintro e X4 ⟨rfl,g,c,hch⟩
        have HCH:=hid (RChg.of HB3.out HV.out hch)
        clear hch x9 m0 m1 m2 fm
        have HU:=hid HCH.out.at_
        have x9:X4.cell? ⟨B,9,none⟩=some (.slice (some ⟨g,0,none⟩) (v.m.ls.length+1) c):=by
          have:X4.cell? ⟨B,9,none⟩=some (.slice (some ⟨g,0,none⟩) (v.m.ls++[l]).length c):=cell_of_heap HU.out.blk 9
          rw [List.length_append] at this
          exact this
        have HPR:=hid (refPrepare _ B X4 HU.out v.m.ls.length (by show _ < (v.m.ls++[l]).length;rw [List.length_append];simp) (by show (v.m.ls++[l]).length≤1000;rw [List.length_append];simp;omega) l (by show (v.m.ls++[l])[v.m.ls.length]'_=l;simp))
        go_wp2_with fail
        refine HPR.out.mono ?_
        rintro e X5 ⟨rfl,hb5⟩
        have HU5:=hid (HU.out.below hb5)
        have HC5:=hid (HCH.out.below hb5)
        clear hb5 HPR x9
        have HAL:=hid (refAll _ B X5 HU5.out n HKN.out (by have:=HL.out.kp;have:=HKN.out;omega) ⟨2,0,v.m.view,(v.m.ls.length+1:Nat),v.ag,0,l,[]⟩ rfl (by show v.os.length≤900;rw [HL.out.os];simp) (packS ⟨2,v.me,v.m.view,(v.m.ls.length+1:Nat),v.ag,0,l,[]⟩) rfl)
        unfold AllRet at HAL
        go_wp2_with fail
        refine HAL.out.mono ?_
        rintro e X6 ⟨rfl,g',c',hch⟩
        have HF:=hid (HC5.out.trans hch)
        clear hch
        go_wp2
        go_end0
        exact G4.out h1 h2 HA.out _ g c g' c' HF.out
    · have h2':(20:Int)≤(v.m.ls.length:Int):=by omega
      go_wp2
      refine bodyPost_ret (v:=.tuple #[]) ?_ rfl (G2.out h1 h2 _ (RChg.same HV.out HB3.out))
      simp [results,Tryz.results102]
  · have h1':l.t≤T:=h1
    have HH1:=hid (G1.out h1)
    have hdd:decide (l.t≤T)=true:=decide_eq_true h1
    rw [hdd]
    clear hdd
    go_wp2
    go_loopw [6] (fun i wr=>∃ (k:Nat) (g:Option Nat) (c:Nat),k≤v.ag∧i=.int .i64 k∧Hid (RChg w wr B v (v.pushAll (tellsN v.m l k) g c))∧Hid (MBox w.heap.size 27 (.int .i64 l.c) (.int .i64 l.t) (.string ⟨l.s.toArray⟩) wr)) (fun i _=>v.ag - (intOf i).toNat)
    case atStart=>exact ⟨0,v.sg,v.sc,Nat.zero_le _,rfl,by show RChg _ _ _ _ _;unfold tellsN;rw [List.range_zero,List.filter_nil,List.map_nil,RV.pushAll_nil];exact RChg.same HV.out HB3.out,HM3.out⟩
    case round =>
      obtain ⟨k,g,c,hk,rfl,HR,HM⟩:=hrel
      have HU:=hid HR.out.at_
      have c10:wr.cell? ⟨B,10,none⟩=some (.int .i64 v.ag):=cell_of_heap HU.out.blk 10
      have c9:wr.cell? ⟨B,9,none⟩=some (.slice (v.g.map fun k=>⟨k,0,none⟩) v.m.ls.length v.c):=cell_of_heap HU.out.blk 9
      have hag:=HL.out.ag
      by_cases hlt:k < v.ag
      · have b1:(k:Int) < (v.ag:Int):=by omega
        obtain ⟨q,o,eq,l0,l1,l2⟩:=HU.out.ls k (by show k < v.m.ls.length;omega)
        have eq:(v.g.map fun k=>(⟨k,0,none⟩:Addr))=some ⟨q,o,none⟩:=eq
        have hgd:v.m.ls.getD k Ln.zero=v.m.ls[k]:=by rw [List.getD_eq_getElem?_getD,List.getElem?_eq_getElem (by omega)];rfl
        have HSC:=tellsN_succ v.m l k
        have HTL:=hid (refTell _ B wr.drew (HU.out.below ((Below.refl _ wr).drew)) k (by show k < v.m.ls.length;omega) (by show v.m.ls.length≤1000;omega) v.m.ls[k] rfl (by show (v.os++tellsN v.m l k).length≤1000;rw [HL.out.os];unfold tellsN;rw [List.nil_append,List.length_map];have:=List.length_filter_le (fun n=>sameTurn l (v.m.ls.getD n Ln.zero)) (List.range k);rw [List.length_range] at this;omega) (packS ⟨9,0,v.m.view,(k+1:Nat),0,0,⟨v.m.ls[k].c,v.m.ls[k].t,[]⟩,[]⟩) rfl)
        have hto:Hid (toldO v.m k=⟨true,v.m.ls[k].c,packS ⟨9,0,v.m.view,(k+1:Nat),0,0,⟨v.m.ls[k].c,v.m.ls[k].t,[]⟩,[]⟩⟩):=by show _=_;unfold toldO;rw [hgd]
        rw [hgd] at HSC
        have HSC:=hid HSC
        change wr.cell? ⟨q,o+k * 3,none⟩=some (.int .i64 v.m.ls[k].c) at l0
        change wr.cell? ⟨q,o+k * 3+1,none⟩=some (.int .i64 v.m.ls[k].t) at l1
        clear l2 hgd
        rw [eq] at c9
        clear eq
        unfold SentRet at HTL
        have hst:Hid (sameTurn l v.m.ls[k]=(decide (v.m.ls[k].c=l.c) && decide (v.m.ls[k].t=l.t))):=by show _=_;unfold sameTurn;rfl
        generalize v.m.ls[k]=ln at *
        have b0:(0:Int)≤(k:Int):=by omega
        have b2:(k:Int) < (v.m.ls.length:Int):=by omega
        obtain ⟨m0,m1,m2,fm⟩:=mbox_cells HM.out
        by_cases e1:ln.c=l.c
        · by_cases e2:ln.t=l.t
          · have HSAME:Hid (sameTurn l ln=true):=by show _=_;rw [hst.out,decide_eq_true e1,decide_eq_true e2];rfl
            have i1:(ln.c=l.c)↔True:=iff_true_intro e1
            have i2:(ln.t=l.t)↔True:=iff_true_intro e2
            go_wp2
            go_still_tail 25,(by kernel_rfl)
            go_wp2_with fail
            refine HTL.out.mono ?_
            rintro e x1 ⟨rfl,g2,c2,hch⟩
            have HM2:=hid (hch.keepB (HU.out.below ((Below.refl _ wr).drew)) HM.out (by decide) (by decide))
            have HR2:=hid ((HR.out.below ((Below.refl _ wr).drew)).trans hch)
            rw [RV.pushAll_push] at HR2
            clear hch
            go_wp2
            go_roundw
            case rel =>
              first
              | exact ⟨k+1,some g2,c2,by omega,by go_num,by rw [HSC.out,if_pos HSAME.out,hto.out];exact HR2,HM2⟩
              | ((repeat apply Exists.intro);refine ⟨?_,rfl⟩;exact ⟨k+1,some g2,c2,by omega,by go_num,by rw [HSC.out,if_pos HSAME.out,hto.out];exact HR2,HM2⟩)
            case measure=>simp [intOf];omega
          · have HSAME:Hid (sameTurn l ln=false):=by show _=_;rw [hst.out,decide_eq_false e2,Bool.and_false]
            have i1:(ln.c=l.c)↔True:=iff_true_intro e1
            go_wp2
            go_still_tail 25,(by kernel_rfl)
            go_wp2
            go_roundw
            case rel =>
              first
              | exact ⟨k+1,g,c,by omega,by go_num,by rw [HSC.out,HSAME.out];simp only [Bool.false_eq_true,if_false,List.append_nil];exact HR.out.below ((Below.refl _ _).drew),HM.out⟩
              | ((repeat apply Exists.intro);refine ⟨?_,rfl⟩;exact ⟨k+1,g,c,by omega,by go_num,by rw [HSC.out,HSAME.out];simp only [Bool.false_eq_true,if_false,List.append_nil];exact HR.out.below ((Below.refl _ _).drew),HM.out⟩)
            case measure=>simp [intOf];omega
        · have HSAME:Hid (sameTurn l ln=false):=by show _=_;rw [hst.out,decide_eq_false e1,Bool.false_and]
          go_wp2
          go_still_tail 25,(by kernel_rfl)
          go_wp2
          go_roundw
          case rel =>
            first
            | exact ⟨k+1,g,c,by omega,by go_num,by rw [HSC.out,HSAME.out];simp only [Bool.false_eq_true,if_false,List.append_nil];exact HR.out.below ((Below.refl _ _).drew),HM.out⟩
            | ((repeat apply Exists.intro);refine ⟨?_,rfl⟩;exact ⟨k+1,g,c,by omega,by go_num,by rw [HSC.out,HSAME.out];simp only [Bool.false_eq_true,if_false,List.append_nil];exact HR.out.below ((Below.refl _ _).drew),HM.out⟩)
          case measure=>simp [intOf];omega
      · have hka:k=v.ag:=by omega
        subst hka
        go_wp2
        refine bodyPost_ret (v:=.tuple #[]) ?_ rfl (HH1.out _ g c HR.out)
        simp [results,Tryz.results102]
end
theorem RV.At.unwait {v:RV} {w:World} {B:Nat} (h:v.At w B):RChg w (w.setCell ⟨B,47,none⟩ (.int .i64 0)) B v v :=
  h.cellChg (by unfold RV.cells;simp only [List.setIfInBounds_toArray,List.set_cons_zero,List.set_cons_succ]) ⟨rfl,rfl,rfl,rfl,rfl,rfl⟩
def RV.holds (v:RV) (agreed:Int):RV:={ v with ag:=max v.ag (min agreed.toNat v.m.ls.length) }
def holdO (me view:Int) (n:Nat) (tk:Int):OutG:=⟨false,tk,packS ⟨3,me,view,n,0,0,Ln.zero,[]⟩⟩
def lagO (me view tk:Int):OutG:=⟨false,tk,packS ⟨8,me,view,0,0,0,Ln.zero,[]⟩⟩
section
variable (v:RV) (B:Nat) (w:World) (h:v.At w B)
include h
theorem refLag (tk:Int) (ho:v.os.length≤1000):∀ z,Below w.heap.size w z→Calls Tryz.prog 107 #[.pointer (some ⟨B,0,none⟩),.int .i64 tk,.agg #[.int .i64 8,.int .i64 0,.int .i64 v.m.view,.int .i64 0,.int .i64 0,.int .i64 0,.int .i64 0,.int .i64 0,.string ⟨#[]⟩,.slice none 0 0]] z (SentRet z B v (lagO v.me v.m.view tk)):=fun z hz =>
  refSend v B z (h.below hz) tk ⟨8,0,v.m.view,0,0,0,Ln.zero,[]⟩ none 0 (fun j hj=>absurd hj (Nat.not_lt_zero _)) (Nat.zero_le _) (Nat.le_refl _) ho _ rfl
theorem refLed4 (Q:Ending→World→Prop) (hl:v.Lead) (frm view place last lc lt:Int) (s:List UInt8) (a:Option Addr) (fl cap n:Nat) (hn:n≤20)
    (H1:v.m.ls.length < n→∀ y g c,RChg w y B v (v.push (lagO v.me v.m.view frm) g c)→Q (.returned (.tuple #[])) y)
    (H2:n≤v.m.ls.length→∀ y g c,RChg w y B v ((v.holds n).push (holdO v.me v.m.view v.m.ls.length frm) g c)→Q (.returned (.tuple #[])) y) :
    Calls Tryz.prog 153 #[.pointer (some ⟨B,0,none⟩),.agg #[.int .i64 4,.int .i64 frm,.int .i64 view,.int .i64 place,.int .i64 n,.int .i64 last,.int .i64 lc,.int .i64 lt,.string ⟨s.toArray⟩,.slice a fl cap]] w Q:=by
  have G1:=hid H1
  have G2:=hid H2
  have HV:=hid h
  have hlt:=h.lt
  have hws:(w.setCell ⟨B,47,none⟩ (.int .i64 0)).heap.size=w.heap.size:=by simp [World.setCell]
  have HC:=hid (h.unwait.below ((Below.refl _ _).alloc (Nat.le_refl _) (.cells #[.int .i64 4,.int .i64 frm,.int .i64 view,.int .i64 place,.int .i64 n,.int .i64 last,.int .i64 lc,.int .i64 lt,.string ⟨s.toArray⟩,.slice a fl cap] 30)))
  have HQ:Hid (Box w.heap.size (.int .i64 4) (.int .i64 frm) (.int .i64 view) (.int .i64 place) (.int .i64 n) (.int .i64 last) (.int .i64 lc) (.int .i64 lt) (.string ⟨s.toArray⟩) (.slice a fl cap) ((w.setCell ⟨B,47,none⟩ (.int .i64 0)).alloc (.cells #[.int .i64 4,.int .i64 frm,.int .i64 view,.int .i64 place,.int .i64 n,.int .i64 last,.int .i64 lc,.int .i64 lt,.string ⟨s.toArray⟩,.slice a fl cap] 30))):=by have:=heap_alloc_new (w.setCell ⟨B,47,none⟩ (.int .i64 0)) (.cells #[.int .i64 4,.int .i64 frm,.int .i64 view,.int .i64 place,.int .i64 n,.int .i64 last,.int .i64 lc,.int .i64 lt,.string ⟨s.toArray⟩,.slice a fl cap] 30);rw [hws] at this;exact this
  have HL:=hid hl
  have h20:=hl.l20
  have HOS:=hid hl.os
  have c47:w.cell? ⟨B,47,none⟩=some (.int .i64 0):=cell_of_heap h.blk 47
  have f47:w.frozen? ⟨B,47,none⟩=false:=frozen_of_heap h.blk 47
  have c9:w.cell? ⟨B,9,none⟩=some (.slice (v.g.map fun k=>⟨k,0,none⟩) v.m.ls.length v.c):=cell_of_heap h.blk 9
  clear h H1 H2 hl hws
  go_enter Tryz.func153,Tryz.ntmps153
  rcases Nat.lt_or_ge v.m.ls.length n with h1 | h1
  · have h1':(v.m.ls.length:Int) < (n:Int):=by omega
    go_wp2
    generalize (w.setCell ⟨B,47,none⟩ (.int .i64 0)).alloc (.cells #[.int .i64 4,.int .i64 frm,.int .i64 view,.int .i64 place,.int .i64 n,.int .i64 last,.int .i64 lc,.int .i64 lt,.string ⟨s.toArray⟩,.slice a fl cap] 30)=X at *
    have HLG:=hid (refLag v B X HC.out.at_ frm (by rw [HOS.out];simp) X.drew ((Below.refl _ _).drew))
    unfold SentRet at HLG
    obtain ⟨r0,r1,r2,r3,r4,r5,r6,r7,r8,r9⟩:=box_cells HQ.out
    have x7:X.cell? ⟨B,7,none⟩=some (.int .i64 v.m.view):=cell_of_heap HC.out.at_.blk 7
    go_still_tail 9,(by kernel_rfl)
    go_wp2_with fail
    refine HLG.out.mono ?_
    rintro e Y ⟨rfl,g,c,hch⟩
    have HF:=hid ((HC.out.below ((Below.refl _ _).drew)).trans hch)
    clear hch
    go_wp2
    refine bodyPost_ret (v:=.tuple #[]) ?_ rfl (G1.out h1 _ g c HF.out)
    simp [results,Tryz.results153]
  · have h1':¬ (v.m.ls.length:Int) < (n:Int):=by omega
    have HAG:=hid (refAgree v B _ HC.out.at_ n (by omega) (by omega))
    go_wp2_with fail
    refine HAG.out.mono ?_
    rintro e Y ⟨rfl,hch⟩
    have HQ2:=hid (hch.box HC.out.at_ HQ.out)
    have HC2:=hid (HC.out.trans hch)
    clear hch c47 f47 c9
    obtain ⟨r0,r1,r2,r3,r4,r5,r6,r7,r8,r9⟩:=box_cells HQ2.out
    have HHO:=hid (refHolding _ B Y HC2.out.at_ frm (by show v.os.length≤1000;rw [HOS.out];simp) _ rfl)
    unfold SentRet at HHO
    go_wp2_with fail
    refine HHO.out.mono ?_
    rintro e Z ⟨rfl,g,c,hch⟩
    have HF:=hid (HC2.out.trans hch)
    clear hch
    go_wp2
    go_end0
    exact G2.out h1 _ g c HF.out
end
section
variable (v:RV) (B:Nat) (w:World) (h:v.At w B)
include h
theorem refLed2 (Q:Ending→World→Prop) (hl:v.Lead) (frm view last:Int) (p n:Nat) (l:Ln) (a:Option Addr) (fl cap:Nat) (hn:n≤20) (hp:p≤20) (hls:l.s.length≤8)
    (H1:p=v.m.ls.length+1→l.t≤turnOf v.m.ls l.c→∀ y,RChg w y B v v→Q (.returned (.tuple #[])) y)
    (H2:p=v.m.ls.length+1→turnOf v.m.ls l.c < l.t→v.arm=1→∀ y,RChg w y B v { v with dead:=true,lost:=recBytes (1 :: lineBytes l) }→Q (.returned (.tuple #[])) y)
    (H3:p=v.m.ls.length+1→turnOf v.m.ls l.c < l.t→v.arm≠1→∀ y g c g' c',RChg w y B v (((v.more l (armNext v.arm) g c).holds n).push (holdO v.me v.m.view (v.m.ls.length+1) frm) g' c')→Q (.returned (.tuple #[])) y)
    (H4:v.m.ls.length+1 < p→∀ y g c,RChg w y B v (v.push (lagO v.me v.m.view frm) g c)→Q (.returned (.tuple #[])) y)
    (H5:p≤v.m.ls.length→∀ y g c,RChg w y B v ((v.holds n).push (holdO v.me v.m.view v.m.ls.length frm) g c)→Q (.returned (.tuple #[])) y) :
    Calls Tryz.prog 153 #[.pointer (some ⟨B,0,none⟩),.agg #[.int .i64 2,.int .i64 frm,.int .i64 view,.int .i64 p,.int .i64 n,.int .i64 last,.int .i64 l.c,.int .i64 l.t,.string ⟨l.s.toArray⟩,.slice a fl cap]] w Q:=by
  have G1:=hid H1
  have G2:=hid H2
  have G3:=hid H3
  have G4:=hid H4
  have G5:=hid H5
  have HV:=hid h
  have hlt:=h.lt
  have hws:(w.setCell ⟨B,47,none⟩ (.int .i64 0)).heap.size=w.heap.size:=by simp [World.setCell]
  have HC:=hid (h.unwait.below ((Below.refl _ _).alloc (Nat.le_refl _) (.cells #[.int .i64 2,.int .i64 frm,.int .i64 view,.int .i64 p,.int .i64 n,.int .i64 last,.int .i64 l.c,.int .i64 l.t,.string ⟨l.s.toArray⟩,.slice a fl cap] 30)))
  have HQ:Hid (Box w.heap.size (.int .i64 2) (.int .i64 frm) (.int .i64 view) (.int .i64 p) (.int .i64 n) (.int .i64 last) (.int .i64 l.c) (.int .i64 l.t) (.string ⟨l.s.toArray⟩) (.slice a fl cap) ((w.setCell ⟨B,47,none⟩ (.int .i64 0)).alloc (.cells #[.int .i64 2,.int .i64 frm,.int .i64 view,.int .i64 p,.int .i64 n,.int .i64 last,.int .i64 l.c,.int .i64 l.t,.string ⟨l.s.toArray⟩,.slice a fl cap] 30))):=by have:=heap_alloc_new (w.setCell ⟨B,47,none⟩ (.int .i64 0)) (.cells #[.int .i64 2,.int .i64 frm,.int .i64 view,.int .i64 p,.int .i64 n,.int .i64 last,.int .i64 l.c,.int .i64 l.t,.string ⟨l.s.toArray⟩,.slice a fl cap] 30);rw [hws] at this;exact this
  have HL:=hid hl
  have h20:=hl.l20
  have HOS:=hid hl.os
  have c47:w.cell? ⟨B,47,none⟩=some (.int .i64 0):=cell_of_heap h.blk 47
  have f47:w.frozen? ⟨B,47,none⟩=false:=frozen_of_heap h.blk 47
  clear h H1 H2 H3 H4 H5 hl hws
  go_enter Tryz.func153,Tryz.ntmps153
  go_wp2
  generalize (w.setCell ⟨B,47,none⟩ (.int .i64 0)).alloc (.cells #[.int .i64 2,.int .i64 frm,.int .i64 view,.int .i64 p,.int .i64 n,.int .i64 last,.int .i64 l.c,.int .i64 l.t,.string ⟨l.s.toArray⟩,.slice a fl cap] 30)=X at *
  clear c47 f47
  have x9:X.cell? ⟨B,9,none⟩=some (.slice (v.g.map fun k=>⟨k,0,none⟩) v.m.ls.length v.c):=cell_of_heap HC.out.at_.blk 9
  have x7:X.cell? ⟨B,7,none⟩=some (.int .i64 v.m.view):=cell_of_heap HC.out.at_.blk 7
  obtain ⟨r0,r1,r2,r3,r4,r5,r6,r7,r8,r9⟩:=box_cells HQ.out
  have w1:IntKind.i64.wrap ((v.m.ls.length:Int)+1)=(v.m.ls.length:Int)+1:=by rw [IntWalk.i64_left,IntWalk.wrap64_in _ (by omega)]
  by_cases hp1:p=v.m.ls.length+1
  · have i1:((p:Int) == (v.m.ls.length:Int)+1)=true:=by rw [beq_iff_eq];omega
    have HP1:=hid hp1
    clear hp1
    have HTU:Hid (∀ z,Below X.heap.size X z→Calls Tryz.prog 149 #[.slice (v.g.map fun k=>⟨k,0,none⟩) v.m.ls.length v.c,.int .i64 l.c] z fun e w'=>e=.returned (.int .i64 (turnOf v.m.ls l.c))∧Below z.heap.size z w'):=fun z hz=>(turn_any (v.g.map fun k=>(⟨k,0,none⟩:Addr)) v.c v.m.ls l.c z ((HC.out.at_.below hz).ls) (by omega)).mono (fun e w' hh=>⟨hh.1,by rw [hh.2];exact Below.refl _ _⟩)
    go_still_tail 9,(by kernel_rfl)
    go_wp2
    have Q9:=hid x9
    have Q6:=hid r6
    have Q7:=hid r7
    clear x9 x7 r0 r1 r2 r3 r4 r5 r6 r7 r8 r9
    have hS0:(fun z:World=>Below X.heap.size X z∧z.cell? ⟨B,9,none⟩=some (.slice (v.g.map fun k=>⟨k,0,none⟩) v.m.ls.length v.c)∧z.cell? ⟨w.heap.size,6,none⟩=some (.int .i64 l.c)∧z.cell? ⟨w.heap.size,7,none⟩=some (.int .i64 l.t)) X.drew.drew:=⟨((Below.refl _ X).drew).drew,Q9.out,Q6.out,Q7.out⟩
    refine wp_region_held_drew (S:=fun z:World=>Below X.heap.size X z∧z.cell? ⟨B,9,none⟩=some (.slice (v.g.map fun k=>⟨k,0,none⟩) v.m.ls.length v.c)∧z.cell? ⟨w.heap.size,6,none⟩=some (.int .i64 l.c)∧z.cell? ⟨w.heap.size,7,none⟩=some (.int .i64 l.t)) (by kernel_rfl) hS0 (fun hS=>?_)
    clear hS0
    refine tH 0 hS ?_
    try simp only [lA,lB,lC,Act.put,lD,lE,lF]
    refine tH 1 hS ?_
    try simp only [lA,lB,lC,Act.put,lD,lE,lF]
    refine tH 3 hS ?_
    try simp only [lA,lB,lC,Act.put,lD,lE,lF]
    refine tH 4 hS ?_
    try simp only [lA,lB,lC,Act.put,lD,lE,lF]
    refine tH 5 hS ?_
    try simp only [lA,lB,lC,Act.put,lD,lE,lF]
    refine tH 6 hS ?_
    try simp only [lA,lB,lC,Act.put,lD,lE,lF]
    refine tH 8 hS ?_
    try simp only [lA,lB,lC,Act.put,lD,lE,lF]
    refine tH 9 hS ?_
    try simp only [lA,lB,lC,Act.put,lD,lE,lF]
    refine tH 2 hS ?_ (hy:=by (intro w hw;obtain ⟨_,s0,s1,s2⟩:=hw;go_simp;try with_reducible rfl))
    try simp only [lA,lB,lC,Act.put,lD,lE,lF]
    refine tH 7 hS ?_ (hy:=by (intro w hw;obtain ⟨_,s0,s1,s2⟩:=hw;go_simp;try with_reducible rfl))
    try simp only [lA,lB,lC,Act.put,lD,lE,lF]
    refine tH 10 hS ?_ (hy:=by (intro w hw;obtain ⟨_,s0,s1,s2⟩:=hw;go_simp;try with_reducible rfl))
    try simp only [lA,lB,lC,Act.put,lD,lE,lF]
    refine wpAnyH_ready (rs:=[11]) (by kernel_rfl) (by simp) ?_
    refine AllReadyH.cons rfl (fun K hK=>?_) AllReadyH.nil
    go_simp
    refine (HTU.out _ hS.1).mono ?_
    rintro e X3 ⟨rfl,hb3⟩
    have hb13:=hS.1.trans (hb3.mono hS.1.size)
    refine hK.out _ _ ⟨hb13,(Below.cell hb13 (World.block_lt_of_cell? _ _ Q9.out)).trans Q9.out,(Below.cell hb13 (World.block_lt_of_cell? _ _ Q6.out)).trans Q6.out,(Below.cell hb13 (World.block_lt_of_cell? _ _ Q7.out)).trans Q7.out⟩ (fun hS=>?_)
    clear hK K hb3
    refine tH 12 hS ?_
    try simp only [lA,lB,lC,Act.put,lD,lE,lF]
    refine wpAnyH_done (by kernel_rfl) ?_ _
    have HC3:=hid (HC.out.below hb13)
    have HQ3:=hid (Box.below HQ.out hb13)
    clear hb13 hS Q9 Q6 Q7 HTU HQ HC
    generalize turnOf v.m.ls l.c=T at *
    rcases Int.lt_or_le T l.t with h1 | h1
    · have h1':¬ l.t≤T:=by omega
      obtain ⟨r0,r1,r2,r3,r4,r5,r6,r7,r8,r9⟩:=box_cells HQ3.out
      by_cases ha:v.arm=1
      · have HMF:=hid (refMoreFail v B X3 HC3.out.at_ HL.out.dead ha l hls)
        have HA:=hid ha
        clear ha
        go_wp2_with fail
        refine HMF.out.mono ?_
        rintro e X4 ⟨rfl,hch⟩
        have HCH:=hid (HC3.out.trans hch)
        clear hch
        go_wp2
        refine bodyPost_ret (v:=.tuple #[]) ?_ rfl (G2.out HP1.out h1 HA.out _ HCH.out)
        simp [results,Tryz.results153]
      · have HMO:=hid (refMoreOk v B X3 HC3.out.at_ HL.out.dead (armNext v.arm) (by unfold armNext;have:=HL.out.arm;split <;> omega) HL.out.dl (by omega) l hls)
        have HA:=hid ha
        clear ha
        go_wp2_with fail
        refine HMO.out.mono ?_
        rintro e X4 ⟨rfl,g,c,hch⟩
        have HQ4:=hid (hch.box HC3.out.at_ HQ3.out)
        have HC4:=hid (HC3.out.trans hch)
        clear hch r0 r1 r2 r3 r4 r5 r6 r7 r8 r9 HC3 HQ3
        obtain ⟨r0,r1,r2,r3,r4,r5,r6,r7,r8,r9⟩:=box_cells HQ4.out
        have x9:X4.cell? ⟨B,9,none⟩=some (.slice (some ⟨g,0,none⟩) (v.m.ls.length+1) c):=by
          have:X4.cell? ⟨B,9,none⟩=some (.slice (some ⟨g,0,none⟩) (v.m.ls++[l]).length c):=cell_of_heap HC4.out.at_.blk 9
          rw [List.length_append] at this
          exact this
        have hb9:¬ (v.m.ls.length:Int)+1 < (p:Int):=by have:=HP1.out;omega
        have HAG:=hid (refAgree _ B X4 HC4.out.at_ n (by omega) (by show (v.m.ls++[l]).length≤1000;rw [List.length_append];simp;omega))
        go_wp2_with fail
        refine HAG.out.mono ?_
        rintro e Y ⟨rfl,hch⟩
        have HQ2:=hid (hch.box HC4.out.at_ HQ4.out)
        have HC2:=hid (HC4.out.trans hch)
        clear hch r0 r1 r2 r3 r4 r5 r6 r7 r8 r9 x9 HAG
        obtain ⟨r0,r1,r2,r3,r4,r5,r6,r7,r8,r9⟩:=box_cells HQ2.out
        have HHO:=hid (refHolding _ B Y HC2.out.at_ frm (by show v.os.length≤1000;rw [HOS.out];simp) _ rfl)
        unfold SentRet at HHO
        go_wp2_with fail
        refine HHO.out.mono ?_
        rintro e Z ⟨rfl,g',c',hch⟩
        have HF:=hid (HC2.out.trans hch)
        clear hch
        go_wp2
        go_end0
        refine G3.out HP1.out h1 HA.out _ g c g' c' ?_
        have:=HF.out
        have el:(v.m.ls++[l]).length=v.m.ls.length+1:=by rw [List.length_append];rfl
        unfold holdO
        rw [← el]
        exact this
    · have h1':l.t≤T:=h1
      go_wp2
      refine bodyPost_ret (v:=.tuple #[]) ?_ rfl (G1.out HP1.out h1 _ HC3.out)
      simp [results,Tryz.results153]
  · have i1:((p:Int) == (v.m.ls.length:Int)+1)=false:=by rw [beq_eq_false_iff_ne];omega
    have HP1:=hid hp1
    clear hp1
    rcases Nat.lt_or_ge v.m.ls.length p with h1 | h1
    · have h1':(v.m.ls.length:Int) < (p:Int):=by omega
      go_still_tail 9,(by kernel_rfl)
      go_wp2_with fail
      have HCY:=hid (HC.out.below ((Below.refl _ _).drew))
      have HQY:=hid (Box.drew HQ.out)
      clear HC HQ r0 r1 r2 r3 r4 r5 r6 r7 r8 r9 x7 x9
      generalize X.drew=Y at *
      have HLG:=hid (refLag v B Y HCY.out.at_ frm (by rw [HOS.out];simp) Y.drew ((Below.refl _ _).drew))
      unfold SentRet at HLG
      obtain ⟨r0,r1,r2,r3,r4,r5,r6,r7,r8,r9⟩:=box_cells HQY.out
      have x7:Y.cell? ⟨B,7,none⟩=some (.int .i64 v.m.view):=cell_of_heap HCY.out.at_.blk 7
      go_still_tail 9,(by kernel_rfl)
      go_wp2_with fail
      refine HLG.out.mono ?_
      rintro e Z ⟨rfl,g,c,hch⟩
      have HF:=hid ((HCY.out.below ((Below.refl _ _).drew)).trans hch)
      clear hch
      go_wp2
      refine bodyPost_ret (v:=.tuple #[]) ?_ rfl (G4.out (by have:=HP1.out;omega) _ g c HF.out)
      simp [results,Tryz.results153]
    · have h1':¬ (v.m.ls.length:Int) < (p:Int):=by omega
      have HAG:=hid (refAgree v B X.drew (HC.out.at_.below ((Below.refl _ _).drew)) n (by omega) (by omega))
      go_still_tail 9,(by kernel_rfl)
      go_wp2_with fail
      refine HAG.out.mono ?_
      rintro e Y ⟨rfl,hch⟩
      have HQ2:=hid (hch.box (HC.out.at_.below ((Below.refl _ _).drew)) (Box.drew HQ.out))
      have HC2:=hid ((HC.out.below ((Below.refl _ _).drew)).trans hch)
      clear hch r0 r1 r2 r3 r4 r5 r6 r7 r8 r9 x9 x7 HAG
      obtain ⟨r0,r1,r2,r3,r4,r5,r6,r7,r8,r9⟩:=box_cells HQ2.out
      have HHO:=hid (refHolding _ B Y HC2.out.at_ frm (by show v.os.length≤1000;rw [HOS.out];simp) _ rfl)
      unfold SentRet at HHO
      go_wp2_with fail
      refine HHO.out.mono ?_
      rintro e Z ⟨rfl,g,c,hch⟩
      have HF:=hid (HC2.out.trans hch)
      clear hch
      go_wp2
      go_end0
      exact G5.out h1 _ g c HF.out
end
end
end Go.Proofs.YtolififimldmlaaGreat
