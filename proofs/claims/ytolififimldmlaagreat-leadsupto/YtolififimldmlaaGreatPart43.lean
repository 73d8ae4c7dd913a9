import Derived.Test.YtolififimldmlaaGreatPart42
import Derived.Deep.MidRow
import Derived.Test.YtolififimldmlaaGreatPart39
set_option linter.unusedVariables false
set_option linter.unusedSimpArgs false
set_option maxRecDepth 100000
set_option maxHeartbeats 16000000
namespace Go.Proofs.YtolififimldmlaaGreat
section
open Go.RowKit
attribute [local go_sem ↓] Go.wp_at_zero Go.wp_at_succ
section
variable (v:PV) (B:Nat) (w:World) (h:v.At w B)
include h
theorem hearPrepareV (Q:Ending→World→Prop) (hl:v.lost=[]) (h20:v.m.ls.length≤20) (hag:v.ag≤20) (hdl:v.d.length≤9900000) (harm:0≤v.arm∧v.arm≤9223372036854775807) (frm view:Int) (p n:Nat) (hp:p≤20) (hn:n≤20) (l:Ln) (hf:l.fits)
    (H1:p=v.m.ls.length+1→l.t≤turnOf v.m.ls l.c→∀ e y,OutsChg w B v v [] e y→Q e y)
    (H2:p=v.m.ls.length+1→turnOf v.m.ls l.c < l.t→v.arm=1→∀ e y gf cf,OutsChg w B v (v.crash (1 :: lineBytes l) gf cf) [] e y→Q e y)
    (H3:p=v.m.ls.length+1→turnOf v.m.ls l.c < l.t→v.arm≠1→∀ e y gd cd gl cl,OutsChg w B v { v.more l (armNext v.arm) gd cd gl cl with ag:=min (max v.ag n) (v.m.ls.length+1) } [⟨false,frm,packS ⟨3,v.me,v.m.view,(v.m.ls.length+1:Nat),0,0,Ln.zero,[]⟩⟩] e y→Q e y)
    (H4:v.m.ls.length+1 < p→∀ e y,OutsChg w B v v [⟨false,frm,packS ⟨8,v.me,view,0,0,0,Ln.zero,[]⟩⟩] e y→Q e y)
    (H5:p≤v.m.ls.length→∀ e y,OutsChg w B v { v with ag:=min (max v.ag n) v.m.ls.length } [⟨false,frm,packS ⟨3,v.me,v.m.view,v.m.ls.length,0,0,Ln.zero,[]⟩⟩] e y→Q e y) :
    Calls Tryz.prog 189 #[.pointer (some ⟨B,0,none⟩),.agg #[.int .i64 frm,.int .i64 view,.int .i64 p,.int .i64 n,.int .i64 l.c,.int .i64 l.t,.string ⟨l.s.toArray⟩]] w Q:=by
  have HV:=hid h
  have hlt:=h.lt
  have hws:(w.setCell ⟨B,15,none⟩ (.int .i64 0)).heap.size=w.heap.size:=by simp [World.setCell]
  have HC:=hid (h.unwait.below ((Below.refl _ _).alloc (Nat.le_refl _) (.cells #[.int .i64 frm,.int .i64 view,.int .i64 p,.int .i64 n,.int .i64 l.c,.int .i64 l.t,.string ⟨l.s.toArray⟩] 153)))
  have HP:Hid (((w.setCell ⟨B,15,none⟩ (.int .i64 0)).alloc (.cells #[.int .i64 frm,.int .i64 view,.int .i64 p,.int .i64 n,.int .i64 l.c,.int .i64 l.t,.string ⟨l.s.toArray⟩] 153)).heap[w.heap.size]?=some (.cells #[.int .i64 frm,.int .i64 view,.int .i64 p,.int .i64 n,.int .i64 l.c,.int .i64 l.t,.string ⟨l.s.toArray⟩] 153 (0,0))):=by have:=heap_alloc_new (w.setCell ⟨B,15,none⟩ (.int .i64 0)) (.cells #[.int .i64 frm,.int .i64 view,.int .i64 p,.int .i64 n,.int .i64 l.c,.int .i64 l.t,.string ⟨l.s.toArray⟩] 153);rw [hws] at this;exact this
  have c15:w.cell? ⟨B,15,none⟩=some (.int .i64 0):=cell_of_heap h.blk 15
  have f15:w.frozen? ⟨B,15,none⟩=false:=frozen_of_heap h.blk 15
  have G1:=hid H1
  have G2:=hid H2
  have G3:=hid H3
  have G4:=hid H4
  have G5:=hid H5
  have HL0:=hid hl
  clear h H1 H2 H3 H4 H5 hws hl
  have w1:IntKind.i64.wrap ((v.m.ls.length:Int)+1)=(v.m.ls.length:Int)+1:=by rw [IntWalk.i64_left,IntWalk.wrap64_in _ (by omega)]
  go_enter Tryz.func189,Tryz.ntmps189
  go_wp2
  generalize (w.setCell ⟨B,15,none⟩ (.int .i64 0)).alloc (.cells #[.int .i64 frm,.int .i64 view,.int .i64 p,.int .i64 n,.int .i64 l.c,.int .i64 l.t,.string ⟨l.s.toArray⟩] 153)=X at *
  clear c15 f15
  have HLN:Hid (∀ z,Below X.heap.size X z→Calls Tryz.prog 83 #[.pointer (some ⟨B,0,none⟩)] z fun e w'=>e=.returned (.slice (v.gl.map fun k=>⟨k,0,none⟩) v.m.ls.length v.cl)∧Below z.heap.size z w'):=fun z hz=>by have:=linesV _ B z (HC.out.at_.below hz);exact this
  have hS0:(fun z:World=>X.heap.size≤z.heap.size∧z.heap[w.heap.size]?=some (.cells #[.int .i64 frm,.int .i64 view,.int .i64 p,.int .i64 n,.int .i64 l.c,.int .i64 l.t,.string ⟨l.s.toArray⟩] 153 (0,0))) X.drew:=⟨Nat.le_refl _,HP.out⟩
  refine wp_region_held_drew (S:=fun z:World=>X.heap.size≤z.heap.size∧z.heap[w.heap.size]?=some (.cells #[.int .i64 frm,.int .i64 view,.int .i64 p,.int .i64 n,.int .i64 l.c,.int .i64 l.t,.string ⟨l.s.toArray⟩] 153 (0,0))) (by kernel_rfl) hS0 (fun hS=>?_)
  clear hS0
  refine tH 0 hS ?_
  try simp only [lA,lB,lC,Act.put,lD,lE,lF]
  refine tH 2 hS ?_
  try simp only [lA,lB,lC,Act.put,lD,lE,lF]
  refine tH 1 hS ?_ (hy:=by (intro w hw;have hw:=hw.2;have s0:=cell_of_heap hw 0;have s1:=cell_of_heap hw 1;have s2:=cell_of_heap hw 2;have s3:=cell_of_heap hw 3;have s4:=cell_of_heap hw 4;have s5:=cell_of_heap hw 5;have s6:=cell_of_heap hw 6;simp only [List.getElem?_toArray,List.getElem?_cons_zero,List.getElem?_cons_succ] at s0 s1 s2 s3 s4 s5 s6;clear hw;go_simp;try with_reducible rfl))
  try simp only [lA,lB,lC,Act.put,lD,lE,lF]
  refine wpAnyH_ready (rs:=[3]) (by kernel_rfl) (by simp) ?_
  refine AllReadyH.cons rfl (fun K hK=>?_) AllReadyH.nil
  go_simp
  refine (HLN.out _ ((Below.refl _ _).drew)).mono ?_
  rintro e X1 ⟨rfl,hb⟩
  have hb1:Below X.heap.size X X1:=((Below.refl _ X).drew).trans (hb.mono (Nat.le_refl _))
  have HC1:=hid (HC.out.below hb1)
  have HP1:=hid ((hb1.block _ (heap_lt HP.out)).trans HP.out)
  refine hK.out _ _ ⟨hb1.size,HP1.out⟩ (fun hS=>?_)
  clear hK K hb hb1 HC HP HLN
  refine tH 4 hS ?_
  try simp only [lA,lB,lC,Act.put,lD,lE,lF]
  refine tH 5 hS ?_
  try simp only [lA,lB,lC,Act.put,lD,lE,lF]
  by_cases hp1:p=v.m.ls.length+1
  · have i1:((p:Int) == (v.m.ls.length:Int)+1)=true:=by rw [beq_iff_eq];omega
    have HPP:=hid hp1
    have hlt20:v.m.ls.length < 20:=by omega
    clear hp1
    have HAD:=hid (addLineV v B X1 HC1.out.at_ (fun b y=>(X1.heap.size≤y.heap.size∧y.heap[w.heap.size]?=some (.cells #[.int .i64 frm,.int .i64 view,.int .i64 p,.int .i64 n,.int .i64 l.c,.int .i64 l.t,.string ⟨l.s.toArray⟩] 153 (0,0)))∧((b=false∧(∀ e,e=.returned (.slice none 0 0)→Q e y))∨(b=true∧turnOf v.m.ls l.c < l.t∧v.arm≠1∧∃ gd cd gl cl,Chg w y B v (v.more l (armNext v.arm) gd cd gl cl)))) HL0.out hlt20 hdl harm l hf
      (fun h1 y hc=>⟨⟨hc.tch.size,hc.keepB HC1.out.at_ HP1.out (by decide) (by decide) (by decide)⟩,.inl ⟨rfl,fun e he=>by rw [he];exact G1.out HPP.out h1 _ y (OutsChg.nil (HC1.out.trans hc))⟩⟩)
      (fun h1 ha y gf cf hc=>⟨⟨hc.tch.size,hc.keepB HC1.out.at_ HP1.out (by decide) (by decide) (by decide)⟩,.inl ⟨rfl,fun e he=>by rw [he];exact G2.out HPP.out h1 ha _ y gf cf (OutsChg.nil (HC1.out.trans hc))⟩⟩)
      (fun h1 ha y gd cd gl cl hc=>⟨⟨hc.tch.size,hc.keepB HC1.out.at_ HP1.out (by decide) (by decide) (by decide)⟩,.inr ⟨rfl,h1,ha,gd,cd,gl,cl,HC1.out.trans hc⟩⟩))
    refine tH 6 hS ?_
    try simp only [lA,lB,lC,Act.put,lD,lE,lF]
    try rw [i1]
    clear i1
    refine tH 7 hS ?_
    try simp only [lA,lB,lC,Act.put,lD,lE,lF]
    refine tH 8 hS ?_
    try simp only [lA,lB,lC,Act.put,lD,lE,lF]
    refine tH 9 hS ?_
    try simp only [lA,lB,lC,Act.put,lD,lE,lF]
    refine tH 10 hS ?_ (hy:=by (intro w hw;have hw:=hw.2;have s0:=cell_of_heap hw 0;have s1:=cell_of_heap hw 1;have s2:=cell_of_heap hw 2;have s3:=cell_of_heap hw 3;have s4:=cell_of_heap hw 4;have s5:=cell_of_heap hw 5;have s6:=cell_of_heap hw 6;simp only [List.getElem?_toArray,List.getElem?_cons_zero,List.getElem?_cons_succ] at s0 s1 s2 s3 s4 s5 s6;clear hw;go_simp;try with_reducible rfl))
    try simp only [lA,lB,lC,Act.put,lD,lE,lF]
    refine wpAnyH_ready (rs:=[11]) (by kernel_rfl) (by simp) ?_
    refine AllReadyH.cons rfl (fun K hK=>?_) AllReadyH.nil
    go_simp
    refine HAD.out.mono ?_
    rintro e X2 ⟨b,rfl,⟨hsz,hp2⟩,hq⟩
    have HP2:=hid hp2
    clear hp2
    refine hK.out _ _ ⟨Nat.le_trans hS.1 hsz,HP2.out⟩ (fun hS=>?_)
    clear hK K
    rcases hq with ⟨rfl,hq⟩ | ⟨rfl,h1,ha,gd,cd,gl,cl,hch⟩
    · have HQ:=hid hq
      clear hq
      refine tH 12 hS ?_
      try simp only [lA,lB,lC,Act.put,lD,lE,lF]
      refine tH 13 hS ?_
      try simp only [lA,lB,lC,Act.put,lD,lE,lF]
      refine wpAnyH_done (by kernel_rfl) ?_ _
      clear hS
      go_wp2
      exact HQ.out _ rfl
    · have HC2:=hid hch
      have HH1:=hid h1
      have HA:=hid ha
      clear hch h1 ha
      refine tH 12 hS ?_
      try simp only [lA,lB,lC,Act.put,lD,lE,lF]
      refine tH 13 hS ?_
      try simp only [lA,lB,lC,Act.put,lD,lE,lF]
      refine wpAnyH_done (by kernel_rfl) ?_ _
      clear hS
      go_wp2
      have HLN2:Hid (∀ z,Below X2.heap.size X2 z→Calls Tryz.prog 83 #[.pointer (some ⟨B,0,none⟩)] z fun e w'=>e=.returned (.slice (gl.map fun k=>⟨k,0,none⟩) (v.m.ls.length+1) cl)∧Below z.heap.size z w'):=fun z hz=>by
          have:=linesV _ B z (HC2.out.at_.below hz)
          have el:(v.more l (armNext v.arm) gd cd gl cl).m.ls.length=v.m.ls.length+1:=by show (v.m.ls++[l]).length=_;rw [List.length_append];rfl
          rw [el] at this;exact this
      have hS1:(fun z:World=>Below X2.heap.size X2 z∧z.heap[w.heap.size]?=some (.cells #[.int .i64 frm,.int .i64 view,.int .i64 p,.int .i64 n,.int .i64 l.c,.int .i64 l.t,.string ⟨l.s.toArray⟩] 153 (0,0))) X2.drew:=⟨(Below.refl _ _).drew,HP2.out⟩
      refine wp_region_held_drew (S:=fun z:World=>Below X2.heap.size X2 z∧z.heap[w.heap.size]?=some (.cells #[.int .i64 frm,.int .i64 view,.int .i64 p,.int .i64 n,.int .i64 l.c,.int .i64 l.t,.string ⟨l.s.toArray⟩] 153 (0,0))) (by kernel_rfl) hS1 (fun hS=>?_)
      clear hS1
      refine tH 0 hS ?_
      try simp only [lA,lB,lC,Act.put,lD,lE,lF]
      refine tH 2 hS ?_
      try simp only [lA,lB,lC,Act.put,lD,lE,lF]
      refine tH 1 hS ?_ (hy:=by (intro w hw;have hw:=hw.2;have s0:=cell_of_heap hw 0;have s1:=cell_of_heap hw 1;have s2:=cell_of_heap hw 2;have s3:=cell_of_heap hw 3;have s4:=cell_of_heap hw 4;have s5:=cell_of_heap hw 5;have s6:=cell_of_heap hw 6;simp only [List.getElem?_toArray,List.getElem?_cons_zero,List.getElem?_cons_succ] at s0 s1 s2 s3 s4 s5 s6;clear hw;go_simp;try with_reducible rfl))
      try simp only [lA,lB,lC,Act.put,lD,lE,lF]
      refine wpAnyH_ready (rs:=[3]) (by kernel_rfl) (by simp) ?_
      refine AllReadyH.cons rfl (fun K hK=>?_) AllReadyH.nil
      go_simp
      refine (HLN2.out _ hS.1).mono ?_
      rintro e Y1 ⟨rfl,hb⟩
      have hb1:=hS.1.trans (hb.mono hS.1.size)
      refine hK.out _ _ ⟨hb1,(hb1.block _ (heap_lt HP2.out)).trans HP2.out⟩ (fun hS=>?_)
      clear hK K hb
      refine tH 4 hS ?_
      try simp only [lA,lB,lC,Act.put,lD,lE,lF]
      refine tH 5 hS ?_
      try simp only [lA,lB,lC,Act.put,lD,lE,lF]
      refine wpAnyH_done (by kernel_rfl) ?_ _
      have HCY:=hid (HC2.out.below hb1)
      have HPY:=hid ((hb1.block _ (heap_lt HP2.out)).trans HP2.out)
      clear hb1 hS
      have r0:=cell_of_heap HPY.out 0
      have r1:=cell_of_heap HPY.out 1
      have r2:=cell_of_heap HPY.out 2
      have r3:=cell_of_heap HPY.out 3
      simp only [List.getElem?_toArray,List.getElem?_cons_zero,List.getElem?_cons_succ] at r0 r1 r2 r3
      have hb9:¬ (v.m.ls.length:Int)+1 < (p:Int):=by have:=HPP.out;omega
      have HHD:=hid (holdV _ B Y1 HCY.out.at_ frm view n hn hag (by show (v.m.ls++[l]).length≤20;rw [List.length_append];simp;omega))
      go_wp2_with fail
      refine HHD.out.mono ?_
      intro e y hh
      have el:(v.m.ls++[l]).length=v.m.ls.length+1:=by rw [List.length_append];rfl
      have HF:=hid (G3.out HPP.out HH1.out HA.out e y gd cd gl cl (by rw [← el];exact OutsChg.of HCY.out hh))
      clear el
      obtain ⟨a9,n9,q9,rfl⟩:=hh.form
      go_wp2
      exact HF.out
  · have i1:((p:Int) == (v.m.ls.length:Int)+1)=false:=by rw [beq_eq_false_iff_ne];omega
    have HPP:=hid hp1
    clear hp1
    refine tH 6 hS ?_
    try simp only [lA,lB,lC,Act.put,lD,lE,lF]
    try rw [i1]
    clear i1
    refine tH 7 hS ?_
    try simp only [lA,lB,lC,Act.put,lD,lE,lF]
    refine sH 8 hS ?_
    try simp only [lA,lB,lC,Act.put,lD,lE,lF]
    refine sH 9 hS ?_
    try simp only [lA,lB,lC,Act.put,lD,lE,lF]
    refine sH 10 hS ?_
    try simp only [lA,lB,lC,Act.put,lD,lE,lF]
    refine sH 11 hS ?_
    try simp only [lA,lB,lC,Act.put,lD,lE,lF]
    refine sH 12 hS ?_
    try simp only [lA,lB,lC,Act.put,lD,lE,lF]
    refine tH 13 hS ?_
    try simp only [lA,lB,lC,Act.put,lD,lE,lF]
    refine wpAnyH_done (by kernel_rfl) ?_ _
    clear hS
    go_wp2
    have HLN2:Hid (∀ z,Below X1.heap.size X1 z→Calls Tryz.prog 83 #[.pointer (some ⟨B,0,none⟩)] z fun e w'=>e=.returned (.slice (v.gl.map fun k=>⟨k,0,none⟩) v.m.ls.length v.cl)∧Below z.heap.size z w'):=fun z hz=>by have:=linesV _ B z (HC1.out.at_.below hz);exact this
    have hS1:(fun z:World=>Below X1.heap.size X1 z∧z.heap[w.heap.size]?=some (.cells #[.int .i64 frm,.int .i64 view,.int .i64 p,.int .i64 n,.int .i64 l.c,.int .i64 l.t,.string ⟨l.s.toArray⟩] 153 (0,0))) X1.drew:=⟨(Below.refl _ _).drew,HP1.out⟩
    refine wp_region_held_drew (S:=fun z:World=>Below X1.heap.size X1 z∧z.heap[w.heap.size]?=some (.cells #[.int .i64 frm,.int .i64 view,.int .i64 p,.int .i64 n,.int .i64 l.c,.int .i64 l.t,.string ⟨l.s.toArray⟩] 153 (0,0))) (by kernel_rfl) hS1 (fun hS=>?_)
    clear hS1
    refine tH 0 hS ?_
    try simp only [lA,lB,lC,Act.put,lD,lE,lF]
    refine tH 2 hS ?_
    try simp only [lA,lB,lC,Act.put,lD,lE,lF]
    refine tH 1 hS ?_ (hy:=by (intro w hw;have hw:=hw.2;have s0:=cell_of_heap hw 0;have s1:=cell_of_heap hw 1;have s2:=cell_of_heap hw 2;have s3:=cell_of_heap hw 3;have s4:=cell_of_heap hw 4;have s5:=cell_of_heap hw 5;have s6:=cell_of_heap hw 6;simp only [List.getElem?_toArray,List.getElem?_cons_zero,List.getElem?_cons_succ] at s0 s1 s2 s3 s4 s5 s6;clear hw;go_simp;try with_reducible rfl))
    try simp only [lA,lB,lC,Act.put,lD,lE,lF]
    refine wpAnyH_ready (rs:=[3]) (by kernel_rfl) (by simp) ?_
    refine AllReadyH.cons rfl (fun K hK=>?_) AllReadyH.nil
    go_simp
    refine (HLN2.out _ hS.1).mono ?_
    rintro e Y1 ⟨rfl,hb⟩
    have hb1:=hS.1.trans (hb.mono hS.1.size)
    refine hK.out _ _ ⟨hb1,(hb1.block _ (heap_lt HP1.out)).trans HP1.out⟩ (fun hS=>?_)
    clear hK K hb
    refine tH 4 hS ?_
    try simp only [lA,lB,lC,Act.put,lD,lE,lF]
    refine tH 5 hS ?_
    try simp only [lA,lB,lC,Act.put,lD,lE,lF]
    refine wpAnyH_done (by kernel_rfl) ?_ _
    have HCY:=hid (HC1.out.below hb1)
    have HPY:=hid ((hb1.block _ (heap_lt HP1.out)).trans HP1.out)
    clear hb1 hS
    have r0:=cell_of_heap HPY.out 0
    have r1:=cell_of_heap HPY.out 1
    have r2:=cell_of_heap HPY.out 2
    have r3:=cell_of_heap HPY.out 3
    simp only [List.getElem?_toArray,List.getElem?_cons_zero,List.getElem?_cons_succ] at r0 r1 r2 r3
    rcases Nat.lt_or_ge v.m.ls.length p with h1 | h1
    · have h1':(v.m.ls.length:Int) < (p:Int):=by omega
      have HLG:=hid (lagV v B Y1 HCY.out.at_ frm view)
      go_wp2_with fail
      refine HLG.out.mono ?_
      intro e y hh
      have HF:=hid (G4.out (by have:=HPP.out;omega) e y (OutsChg.of HCY.out (hh.chg HCY.out.at_)))
      obtain ⟨a9,n9,q9,rfl⟩:=(hh.chg HCY.out.at_).form
      go_wp2
      exact HF.out
    · have h1':¬ (v.m.ls.length:Int) < (p:Int):=by omega
      have HHD:=hid (holdV v B Y1 HCY.out.at_ frm view n hn hag h20)
      go_wp2_with fail
      refine HHD.out.mono ?_
      intro e y hh
      have HF:=hid (G5.out h1 e y (OutsChg.of HCY.out hh))
      obtain ⟨a9,n9,q9,rfl⟩:=hh.form
      go_wp2
      exact HF.out
end
theorem PV.At.blkChg {v u:PV} {w w':World} {B:Nat} (h:v.At w B) (t:Touch (fun k=>k=B) w w') (hb:w'.heap[B]?=some (.cells (progCells u.kp u.me u.pa u.gd u.d.length u.cd u.m u.gl u.cl u.arm u.gf u.lost.length u.cf u.ag u.hs) 103 (0,0)))
    (hd:u.d=v.d∧u.m=v.m∧u.lost=v.lost∧u.gd=v.gd∧u.cd=v.cd∧u.gl=v.gl∧u.cl=v.cl∧u.gf=v.gf∧u.cf=v.cf):Chg w w' B v u:=by
  obtain ⟨e1,e2,e3,e4,e5,e6,e7,e8,e9⟩:=hd
  have nd:∀ k,u.gd=some k→¬ (k=B):=fun k e e'=>h.ne1.1 (by rw [← e4,e,e'])
  have nl:∀ k,u.gl=some k→¬ (k=B):=fun k e e'=>h.ne1.2.1 (by rw [← e6,e,e'])
  have nf:∀ k,u.gf=some k→¬ (k=B):=fun k e e'=>h.ne1.2.2 (by rw [← e8,e,e'])
  refine ⟨⟨hb,?_,?_,?_,?_,?_,?_,?_,?_⟩,t.mono (fun i _ e=>.inl e),fun k e=>?_⟩
  · rw [e1];exact BytesAt.touch (by rw [e4];exact h.db) t nd
  · rw [e1,e5];exact OwnRow.touch (by rw [e4];exact h.dow) t nd
  · rw [e2,e6]
    refine h.lb.touch t (fun q e=>?_)
    cases hg:v.gl with
    | none=>rw [hg] at e;cases e
    | some g0=>rw [hg] at e;cases e;exact nl g0 (by rw [e6];exact hg)
  · rw [e2,e7];exact OwnRow.touch (by rw [e6];exact h.low) t nl
  · rw [e3];exact BytesAt.touch (by rw [e8];exact h.fb) t nf
  · rw [e3,e9];exact OwnRow.touch (by rw [e8];exact h.fow) t nf
  · rw [e4,e6,e8];exact h.ne1
  · rw [e4,e6,e8];exact h.ne2
  · unfold PV.own at e
    rw [e4,e6,e8] at e
    exact .inl e
theorem setCells_all (B:Nat) (vs:List Value):∀ (w:World) (o:Nat),w.setCells B o vs=setAll w B o vs:=by
  induction vs with
  | nil=>intro w o;rfl
  | cons v vs ih=>intro w o;exact ih _ _
theorem PV.At.there {v:PV} {w:World} {B:Nat} (h:v.At w B):w.there B 0 23:=fun j hj=>by
  have hs:(progCells v.kp v.me v.pa v.gd v.d.length v.cd v.m v.gl v.cl v.arm v.gf v.lost.length v.cf v.ag v.hs).size=23:=rfl
  refine ⟨?_,frozen_of_heap h.blk _⟩
  rw [Nat.zero_add,cell_of_heap h.blk j,Array.getElem?_eq_getElem (by rw [hs];exact hj)]
  rfl
theorem infoKeeper:(Tryz.prog.info? 103).map (·.size)=some 23:=by kernel_rfl
theorem PV.At.setAllC {v u:PV} {w:World} {B:Nat} (h:v.At w B) (cs:List Value) (hc:cs.toArray=progCells u.kp u.me u.pa u.gd u.d.length u.cd u.m u.gl u.cl u.arm u.gf u.lost.length u.cf u.ag u.hs)
    (hd:u.d=v.d∧u.m=v.m∧u.lost=v.lost∧u.gd=v.gd∧u.cd=v.cd∧u.gl=v.gl∧u.cl=v.cl∧u.gf=v.gf∧u.cf=v.cf):Chg w (w.setCells B 0 cs) B v u:=by
  rw [setCells_all]
  have hl:cs.length=23:=by have:=congrArg Array.size hc;simpa [progCells] using this
  refine h.blkChg (setAll_touch B _ w 0) ?_ hd
  rw [← hc]
  exact setAll_heap (cur:=(progCells v.kp v.me v.pa v.gd v.d.length v.cd v.m v.gl v.cl v.arm v.gf v.lost.length v.cf v.ag v.hs).toList) h.blk (by rw [hl];rfl)
section
variable (v:PV) (B:Nat) (w:World) (h:v.At w B)
include h
theorem forgetViewV:Calls Tryz.prog 140 #[.pointer (some ⟨B,0,none⟩)] w fun e w'=>e=.returned (.tuple #[])∧Chg w w' B v { v with hs:=fun _=>0 }:=by
  have HV:=hid h
  have x0:=cell_of_heap HV.out.blk 0
  have x1:=cell_of_heap HV.out.blk 1
  have x2:=cell_of_heap HV.out.blk 2
  have x3:=cell_of_heap HV.out.blk 3
  have x4:=cell_of_heap HV.out.blk 4
  have x5:=cell_of_heap HV.out.blk 5
  have x6:=cell_of_heap HV.out.blk 6
  have x7:=cell_of_heap HV.out.blk 7
  have x8:=cell_of_heap HV.out.blk 8
  have x9:=cell_of_heap HV.out.blk 9
  unfold progCells sl at x0 x1 x2 x3 x4 x5 x6 x7 x8 x9
  simp only [List.getElem?_toArray,List.getElem?_cons_zero,List.getElem?_cons_succ] at x0 x1 x2 x3 x4 x5 x6 x7 x8 x9
  have HV2:=hid h
  have HC:=hid ((h.below ((Below.refl _ w).drew)).setAllC (u:={ v with hs:=fun _=>0 }) [.int .i64 v.kp,.int .i64 v.me,.int .i64 v.pa,.slice (v.gd.map fun k=>⟨k,0,none⟩) v.d.length v.cd,.int .i64 v.m.view,.int .i64 v.m.last,.slice (v.gl.map fun k=>⟨k,0,none⟩) v.m.ls.length v.cl,.int .i64 v.arm,.slice (v.gf.map fun k=>⟨k,0,none⟩) v.lost.length v.cf,.int .i64 v.ag,.int .i64 0,.int .i64 0,.int .i64 0,.int .i64 0,.int .i64 0,.int .i64 0,.bool false,.bool false,.bool false,.bool false,.bool false,.slice none 0 0,.bool false] rfl ⟨rfl,rfl,rfl,rfl,rfl,rfl,rfl,rfl,rfl⟩)
  have HST:Hid (w.there B 0 23):=h.there
  clear h HV
  go_enter Tryz.func140,Tryz.ntmps140
  go_still_tail 15,(by kernel_rfl)
  refine wpList_store_mid rfl 103 (.tmp 16) (.tmp 15) rfl B 0 #[.int .i64 v.kp,.int .i64 v.me,.int .i64 v.pa,.slice (v.gd.map fun k=>⟨k,0,none⟩) v.d.length v.cd,.int .i64 v.m.view,.int .i64 v.m.last,.slice (v.gl.map fun k=>⟨k,0,none⟩) v.m.ls.length v.cl,.int .i64 v.arm,.slice (v.gf.map fun k=>⟨k,0,none⟩) v.lost.length v.cf,.int .i64 v.ag,.int .i64 0,.int .i64 0,.int .i64 0,.int .i64 0,.int .i64 0,.int .i64 0,.bool false,.bool false,.bool false,.bool false,.bool false,.slice none 0 0,.bool false] ?hx ?hy ?ht infoKeeper ?h1 ?_
  case hx=>rfl
  case hy=>rfl
  case ht=>exact HST.out
  case h1=>rw [List.all_toArray];rfl
  have HC2:Hid (Chg w (w.drew.setCells B 0 [.int .i64 v.kp,.int .i64 v.me,.int .i64 v.pa,.slice (v.gd.map fun k=>⟨k,0,none⟩) v.d.length v.cd,.int .i64 v.m.view,.int .i64 v.m.last,.slice (v.gl.map fun k=>⟨k,0,none⟩) v.m.ls.length v.cl,.int .i64 v.arm,.slice (v.gf.map fun k=>⟨k,0,none⟩) v.lost.length v.cf,.int .i64 v.ag,.int .i64 0,.int .i64 0,.int .i64 0,.int .i64 0,.int .i64 0,.int .i64 0,.bool false,.bool false,.bool false,.bool false,.bool false,.slice none 0 0,.bool false]) B v { v with hs:=fun _=>0 }):=Chg.of ((Below.refl _ w).drew) HV2.out HC.out
  clear HC
  change wpList _ _ _ _ _ (w.drew.setCells B 0 [.int .i64 v.kp,.int .i64 v.me,.int .i64 v.pa,.slice (v.gd.map fun k=>⟨k,0,none⟩) v.d.length v.cd,.int .i64 v.m.view,.int .i64 v.m.last,.slice (v.gl.map fun k=>⟨k,0,none⟩) v.m.ls.length v.cl,.int .i64 v.arm,.slice (v.gf.map fun k=>⟨k,0,none⟩) v.lost.length v.cf,.int .i64 v.ag,.int .i64 0,.int .i64 0,.int .i64 0,.int .i64 0,.int .i64 0,.int .i64 0,.bool false,.bool false,.bool false,.bool false,.bool false,.slice none 0 0,.bool false])
  generalize w.drew.setCells B 0 [.int .i64 v.kp,.int .i64 v.me,.int .i64 v.pa,.slice (v.gd.map fun k=>⟨k,0,none⟩) v.d.length v.cd,.int .i64 v.m.view,.int .i64 v.m.last,.slice (v.gl.map fun k=>⟨k,0,none⟩) v.m.ls.length v.cl,.int .i64 v.arm,.slice (v.gf.map fun k=>⟨k,0,none⟩) v.lost.length v.cf,.int .i64 v.ag,.int .i64 0,.int .i64 0,.int .i64 0,.int .i64 0,.int .i64 0,.int .i64 0,.bool false,.bool false,.bool false,.bool false,.bool false,.slice none 0 0,.bool false]=Z at *
  go_wp2
  go_end0
  exact ⟨rfl,HC2.out⟩
end
end
section
open Go.RowKit
attribute [local go_sem ↓] Go.wp_at_zero Go.wp_at_succ
attribute [-go_sem] Instr.storeAt
def PV.gone (v:PV):PV:={ v with kp:=0,me:=0,pa:=0,ag:=0,hs:=fun _=>0 }
section
variable (v:PV) (B:Nat) (w:World) (h:v.At w B)
include h
theorem unlessCrashedV (hl:0 < v.lost.length) (a:Option Addr) (n c:Nat):Calls Tryz.prog 42 #[.pointer (some ⟨B,0,none⟩),.slice a n c] w fun e w'=>e=.returned (.tuple #[.slice none 0 0,.int .i64 4])∧Chg w w' B v v.gone:=by
  have FV:=hid (failedV v B w h)
  rw [decide_eq_true hl] at FV
  have HV:=hid h
  unfold PV.gone
  clear h hl
  go_enter Tryz.func42,Tryz.ntmps42
  go_wp2_with fail
  refine FV.out.mono ?_
  rintro e X ⟨rfl,hb⟩
  have HB:=hid hb
  have HVX:=hid (HV.out.below hb)
  clear hb FV
  have x3:=cell_of_heap HVX.out.blk 3
  have x4:=cell_of_heap HVX.out.blk 4
  have x5:=cell_of_heap HVX.out.blk 5
  have x6:=cell_of_heap HVX.out.blk 6
  have x7:=cell_of_heap HVX.out.blk 7
  have x8:=cell_of_heap HVX.out.blk 8
  unfold progCells sl at x3 x4 x5 x6 x7 x8
  simp only [List.getElem?_toArray,List.getElem?_cons_zero,List.getElem?_cons_succ] at x3 x4 x5 x6 x7 x8
  have HC:=hid (Chg.of HB.out HV.out (HVX.out.setAllC (u:={ v with kp:=0,me:=0,pa:=0,ag:=0,hs:=fun _=>0 }) [.int .i64 0,.int .i64 0,.int .i64 0,.slice (v.gd.map fun k=>⟨k,0,none⟩) v.d.length v.cd,.int .i64 v.m.view,.int .i64 v.m.last,.slice (v.gl.map fun k=>⟨k,0,none⟩) v.m.ls.length v.cl,.int .i64 v.arm,.slice (v.gf.map fun k=>⟨k,0,none⟩) v.lost.length v.cf,.int .i64 0,.int .i64 0,.int .i64 0,.int .i64 0,.int .i64 0,.int .i64 0,.int .i64 0,.bool false,.bool false,.bool false,.bool false,.bool false,.slice none 0 0,.bool false] rfl ⟨rfl,rfl,rfl,rfl,rfl,rfl,rfl,rfl,rfl⟩))
  have hst:=run_storeAt_mid (P:=Tryz.prog) X B 0 103 #[.int .i64 0,.int .i64 0,.int .i64 0,.slice (v.gd.map fun k=>⟨k,0,none⟩) v.d.length v.cd,.int .i64 v.m.view,.int .i64 v.m.last,.slice (v.gl.map fun k=>⟨k,0,none⟩) v.m.ls.length v.cl,.int .i64 v.arm,.slice (v.gf.map fun k=>⟨k,0,none⟩) v.lost.length v.cf,.int .i64 0,.int .i64 0,.int .i64 0,.int .i64 0,.int .i64 0,.int .i64 0,.int .i64 0,.bool false,.bool false,.bool false,.bool false,.bool false,.slice none 0 0,.bool false] HVX.out.there infoKeeper (by rw [List.all_toArray];rfl)
  change _=Result.ok () (X.setCells B 0 [.int .i64 0,.int .i64 0,.int .i64 0,.slice (v.gd.map fun k=>⟨k,0,none⟩) v.d.length v.cd,.int .i64 v.m.view,.int .i64 v.m.last,.slice (v.gl.map fun k=>⟨k,0,none⟩) v.m.ls.length v.cl,.int .i64 v.arm,.slice (v.gf.map fun k=>⟨k,0,none⟩) v.lost.length v.cf,.int .i64 0,.int .i64 0,.int .i64 0,.int .i64 0,.int .i64 0,.int .i64 0,.int .i64 0,.bool false,.bool false,.bool false,.bool false,.bool false,.slice none 0 0,.bool false]) at hst
  clear HVX
  generalize X.setCells B 0 [.int .i64 0,.int .i64 0,.int .i64 0,.slice (v.gd.map fun k=>⟨k,0,none⟩) v.d.length v.cd,.int .i64 v.m.view,.int .i64 v.m.last,.slice (v.gl.map fun k=>⟨k,0,none⟩) v.m.ls.length v.cl,.int .i64 v.arm,.slice (v.gf.map fun k=>⟨k,0,none⟩) v.lost.length v.cf,.int .i64 0,.int .i64 0,.int .i64 0,.int .i64 0,.int .i64 0,.int .i64 0,.int .i64 0,.bool false,.bool false,.bool false,.bool false,.bool false,.slice none 0 0,.bool false]=Z at *
  go_wp2
  go_ret2
  exact ⟨rfl,HC.out⟩
end
end
section
open Go.RowKit
attribute [local go_sem ↓] Go.wp_at_zero Go.wp_at_succ
section
variable (v:PV) (B:Nat) (w:World) (h:v.At w B)
include h
theorem remindOthersV (n:Nat) (hk:v.kp=n) (hn:n≤5) (hh0:∀ k,0≤v.hs k) (h20:v.m.ls.length≤20) :
    Calls Tryz.prog 86 #[.pointer (some ⟨B,0,none⟩)] w (OutsRet w ((othersL v.me n).map fun t=>⟨false,t,packS (v.remF t)⟩)):=by
  have OV:=hid (othersV v B w h n hk hn)
  have RM:Hid (∀ z (t:Int),Below w.heap.size w z→t ∈ othersL v.me n→Calls Tryz.prog 136 #[.pointer (some ⟨B,0,none⟩),.int .i64 t] z fun e w'=>∃ T x,e=.returned (.iface T x)∧(∀ y,Calls Tryz.prog 135 #[.int .i64 t,.iface T x] y (OutRet y false t (packS (v.remF t))))∧Below z.heap.size z w'):=fun z t hz ht=>by
    have hm:=othersL_mem ht
    refine (reminderV v B z (h.below hz) t hm.1 (by omega) (hh0 _) h20).mono ?_
    rintro e w' ⟨T,x,rfl,h1,h2⟩
    exact ⟨T,x,rfl,fun y=>toKeeper_of _ _ t y (fun y' _=>h1 y'),h2⟩
  unfold OutRet at RM
  obtain ⟨io,hio,hio0,hio1,hio2⟩:=info_parts Tryz.info71
  have hlen:=othersL_len v.me n
  clear h hk hh0 h20
  generalize othersL v.me n=L at *
  have HX:Hid (∀ g c gs cs w',OwnOuts w w' g c (L.map fun t=>(⟨false,t,packS (v.remF t)⟩:OutG)) gs cs→Below w.heap.size w w'→OutsRet w (L.map fun t=>(⟨false,t,packS (v.remF t)⟩:OutG)) (.returned (.slice (g.map fun k=>⟨k,0,none⟩) L.length c)) w'):=fun g c gs cs w' h1 h2=>⟨g,c,gs,cs,by rw [List.length_map];rfl,h1,h2⟩
  generalize hQ:OutsRet w (L.map fun t=>(⟨false,t,packS (v.remF t)⟩:OutG))=Q at *
  clear hQ
  go_enter Tryz.func86,Tryz.ntmps86
  go_wp2_with fail
  refine OV.out.mono ?_
  rintro e X0 ⟨gi,ci,rfl,hoi,hb0⟩
  have HOI:=hid hoi
  have HB0:=hid hb0
  clear hoi hb0 OV
  unfold sl
  go_wp2
  go_loopw [3,9] (fun r i wr=>∃ (k:Nat) (g:Option Nat) (c:Nat) (gs:Nat→Option Nat) (cs:Nat→Nat),k≤L.length∧i=.int .i64 k∧r=.slice (g.map fun q=>⟨q,0,none⟩) k c∧Hid (OwnOuts w wr g c ((L.take k).map fun t=>(⟨false,t,packS (v.remF t)⟩:OutG)) gs cs)∧Hid (Below X0.heap.size X0 wr)∧Hid (∀ q,g=some q→X0.heap.size≤q)) (fun _ i _=>L.length - (intOf i).toNat)
  case atStart=>exact ⟨0,none,0,_,_,Nat.zero_le _,rfl,rfl,OwnOuts.none_ _ _,Below.refl _ _,fun q e=>by cases e⟩
  case round =>
    obtain ⟨k,g,c,gs,cs,hk,rfl,rfl,HO,HB,HG⟩:=hrel
    by_cases hlt:k < L.length
    · have b0:(0:Int)≤(k:Int):=by omega
      have b1:(k:Int) < (L.length:Int):=by omega
      obtain ⟨gg,he,hc⟩:=(HOI.out.below HB.out).at_ k hlt
      subst he
      simp only [Option.map_some]
      have HBw:=hid (HB0.out.trans (HB.out.mono HB0.out.size))
      have HRM:=hid (RM.out wr L[k] HBw.out (List.getElem_mem hlt))
      have hkl:((L.take k).map fun t=>(⟨false,t,packS (v.remF t)⟩:OutG)).length=k:=by rw [List.length_map,List.length_take];omega
      have htk:Hid (L.take (k+1)=L.take k++[L[k]]):=by show _=_;rw [List.take_add_one,List.getElem?_eq_getElem hlt];rfl
      generalize L[k]=t at *
      have HPB:Hid (∀ pb,pb=packS (v.remF t)→((L.take (k+1)).map fun t=>(⟨false,t,packS (v.remF t)⟩:OutG))=((L.take k).map fun t=>(⟨false,t,packS (v.remF t)⟩:OutG))++[⟨false,t,pb⟩]):=fun pb e=>by rw [htk.out,List.map_append,e];rfl
      have HPB:=hid (HPB.out _ rfl)
      generalize packS (v.remF t)=pb at *
      go_wp2_with fail
      refine HRM.out.mono ?_
      rintro e x0 ⟨T,xv,rfl,htk2,hb00⟩
      have HTK:=hid (htk2 x0)
      have HBx:=hid (HB.out.trans (hb00.mono HB.out.size))
      have HBwx:=hid (HBw.out.trans (hb00.mono HBw.out.size))
      have HOx:=hid (HO.out.below hb00)
      clear htk2 hb00 HRM
      go_wp2_with fail
      refine HTK.out.mono ?_
      rintro e x1 ⟨gb,cb,rfl,hob,hb1⟩
      have HB1:=hid hb1
      have HOB:=hid hob
      have HOW:Hid (OwnRow (x1.alloc (.cells #[.bool false,.int .i64 t,.slice (gb.map fun q=>⟨q,0,none⟩) pb.length cb] 71)) 71 3 g k c):=by
        have:=(HOx.out.below hb1).own.alloc (.cells #[.bool false,.int .i64 t,.slice (gb.map fun q=>⟨q,0,none⟩) pb.length cb] 71)
        rw [hkl] at this;exact this
      clear hob hb1
      unfold sl
      go_wp2_with (at_builtin;refine wpList_app _ rfl (.tmp 13) (.tmp 19) 54 rfl 71 io (.agg #[.bool false,.int .i64 0,.slice none 0 0]) 3 40 Tryz.underlying54 hio hio0 hio1 hio2 rfl g k c (by rfl) HOW.out ⟨x1.heap.size,0,none⟩ 1 1 [.bool false,.int .i64 t,.slice (gb.map fun q=>⟨q,0,none⟩) pb.length cb] rfl rfl ?c1 ?c2 (by omega) (by omega) (by omega) ?_)
      case c1=>exact World.news_of_block (heap_alloc_new x1 _)
      case c2=>intro u hu;simp at hu;rcases hu with rfl | rfl | rfl <;> rfl
      intro g2 c2 w3 Q
      have HA:=hid (OwnOuts.app (x:=⟨false,t,pb⟩) HOx.out HBwx.out hkl HB1.out HOB.out Q)
      have HBX:Hid (Below X0.heap.size X0 w3):=(HBx.out.trans ((HB1.out.alloc HB1.out.size _).mono HBx.out.size)).trans (Q.touch.below (by rw [World.size_alloc];have:=HBx.out.size;have:=HB1.out.size;omega) (fun j _ e=>HG.out j e))
      have HG2:Hid (∀ q,some g2=some q→X0.heap.size≤q):=fun q e=>by
        have e:=Option.some.inj e
        subst e
        rcases Q.lies with q | q
        · exact HG.out _ q
        · rw [World.size_alloc] at q;have:=HBx.out.size;have:=HB1.out.size;omega
      clear Q
      go_wp2
      go_roundw
      case rel=>exact ⟨k+1,some g2,c2,_,_,by omega,by go_num,rfl,by rw [HPB.out];exact HA.out.1,HBX,HG2⟩
      case measure=>simp [intOf];omega
    · have hkn:k=L.length:=by omega
      subst hkn
      rw [List.take_of_length_le (Nat.le_refl _)] at HO
      go_wp2
      exact HX.out g c gs cs _ HO.out (HB0.out.trans (HB.out.mono HB0.out.size))
end
end
end Go.Proofs.YtolififimldmlaaGreat
