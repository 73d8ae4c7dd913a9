import Derived.Test.YtolififimldmlaaGreatPart44
import Derived.Test.YtolififimldmlaaGreatPart43
import Derived.Test.YtolififimldmlaaGreatPart45
set_option linter.unusedVariables false
set_option linter.unusedSimpArgs false
set_option maxRecDepth 100000
set_option maxHeartbeats 16000000
namespace Go.Proofs.YtolififimldmlaaGreat
section
open Go.RowKit
attribute [local go_sem ↓] Go.wp_at_zero Go.wp_at_succ
section
variable (v:RV) (B:Nat) (w:World) (h:v.At w B)
include h
theorem refRej3_2 (hd:v.dead=false) (hk:v.kp=3∨v.kp=5) (b:List UInt8) (hbn:b.length≤10000000) (frm place agreed last lc lt:Int) (s:List UInt8) (ls:List Ln) (hU:unpackR b=some ⟨2,frm,0,place,agreed,last,⟨lc,lt,s⟩,ls⟩) (hf1:frm≠v.me) (hf2:frm < v.kp) (hf0:(0:Int)≠frm) :
    Calls Tryz.prog 63 #[.pointer (some ⟨B,0,none⟩),.string ⟨b.toArray⟩] w (NoRet w 3):=by
  have HU:Hid (∀ z,Calls Tryz.prog 97 #[.string ⟨b.toArray⟩] z fun e w'=>∃ g c,e=.returned (.tuple #[.agg #[.int .i64 2,.int .i64 frm,.int .i64 0,.int .i64 place,.int .i64 agreed,.int .i64 last,.int .i64 lc,.int .i64 lt,.string ⟨s.toArray⟩,.slice (g.map fun k=>⟨k,0,none⟩) ls.length c],.int .i64 0])∧OwnLines z w' g c ls∧Below z.heap.size z w'):=fun z=>(refUnpack_any b z (Nat.le_trans hbn (by decide))).mono (by
    rintro e w' ⟨g,c,he,ho,hb⟩
    obtain ⟨u1,u2⟩:=un_yes hU
    rw [u1] at he ho
    rw [u2] at he
    exact ⟨g,c,he,ho,hb⟩)
  have HV:=hid h
  have c5:w.cell? ⟨B,5,none⟩=some (.bool false):=by rw [← hd];exact cell_of_heap h.blk 5
  have e1:(frm == v.me)=false:=by rw [beq_eq_false_iff_ne];exact hf1
  have e2:(v.kp≤frm)↔False:=iff_false_intro (by omega)
  have e3:v.kp≠0:=by omega
  have e4:((0:Int) != frm)=true:=by simp [hf0]
  clear h hd hU hk hf1 hf2
  go_enter Tryz.func63,Tryz.ntmps63
  go_wp2_with fail
  refine (HU.out _).mono ?_
  rintro e X ⟨g,c,rfl,ho,hb1⟩
  have HB:=hid (hb1.alloc hb1.size (.cells #[.int .i64 2,.int .i64 frm,.int .i64 0,.int .i64 place,.int .i64 agreed,.int .i64 last,.int .i64 lc,.int .i64 lt,.string ⟨s.toArray⟩,.slice (g.map fun k=>⟨k,0,none⟩) ls.length c] 30))
  have HO:=hid (ho.below ((Below.refl _ X).alloc (Nat.le_refl _) (.cells #[.int .i64 2,.int .i64 frm,.int .i64 0,.int .i64 place,.int .i64 agreed,.int .i64 last,.int .i64 lc,.int .i64 lt,.string ⟨s.toArray⟩,.slice (g.map fun k=>⟨k,0,none⟩) ls.length c] 30)))
  have HQ:Hid (Box X.heap.size (.int .i64 2) (.int .i64 frm) (.int .i64 0) (.int .i64 place) (.int .i64 agreed) (.int .i64 last) (.int .i64 lc) (.int .i64 lt) (.string ⟨s.toArray⟩) (.slice (g.map fun k=>⟨k,0,none⟩) ls.length c) (X.alloc (.cells #[.int .i64 2,.int .i64 frm,.int .i64 0,.int .i64 place,.int .i64 agreed,.int .i64 last,.int .i64 lc,.int .i64 lt,.string ⟨s.toArray⟩,.slice (g.map fun k=>⟨k,0,none⟩) ls.length c] 30))):=heap_alloc_new X _
  clear hb1 ho c5 HU
  go_wp2
  generalize X.alloc (.cells #[.int .i64 2,.int .i64 frm,.int .i64 0,.int .i64 place,.int .i64 agreed,.int .i64 last,.int .i64 lc,.int .i64 lt,.string ⟨s.toArray⟩,.slice (g.map fun k=>⟨k,0,none⟩) ls.length c] 30)=Y at *
  have HA:=hid (HV.out.below HB.out)
  have y0:Y.cell? ⟨B,0,none⟩=some (.int .i64 v.kp):=cell_of_heap HA.out.blk 0
  have y1:Y.cell? ⟨B,1,none⟩=some (.int .i64 v.me):=cell_of_heap HA.out.blk 1
  obtain ⟨r0,r1,r2,r3,r4,r5,r6,r7,r8,r9⟩:=box_cells HQ.out
  go_still_tail 17,(by kernel_rfl)
  go_wp2
  have HBY:=hid HB.out.drew
  have HQY:=hid (Box.drew HQ.out)
  have HOY:=hid (HO.out.below ((Below.refl _ Y).drew))
  clear HB HQ HA HO r0 r1 r2 r3 r4 r5 r6 r7 r8 r9 y0 y1
  generalize Y.drew=Z at *
  have HAZ:=hid (HV.out.below HBY.out)
  have y0:Z.cell? ⟨B,0,none⟩=some (.int .i64 v.kp):=cell_of_heap HAZ.out.blk 0
  have y1:Z.cell? ⟨B,1,none⟩=some (.int .i64 v.me):=cell_of_heap HAZ.out.blk 1
  obtain ⟨r0,r1,r2,r3,r4,r5,r6,r7,r8,r9⟩:=box_cells HQY.out
  go_still_tail 25,(by kernel_rfl)
  go_wp2
  go_ret2
  exact ⟨rfl,HBY.out.drew⟩
theorem refRej3_4 (hd:v.dead=false) (hk:v.kp=3∨v.kp=5) (b:List UInt8) (hbn:b.length≤10000000) (frm place agreed last lc lt:Int) (s:List UInt8) (ls:List Ln) (hU:unpackR b=some ⟨4,frm,0,place,agreed,last,⟨lc,lt,s⟩,ls⟩) (hf1:frm≠v.me) (hf2:frm < v.kp) (hf0:(0:Int)≠frm) :
    Calls Tryz.prog 63 #[.pointer (some ⟨B,0,none⟩),.string ⟨b.toArray⟩] w (NoRet w 3):=by
  have HU:Hid (∀ z,Calls Tryz.prog 97 #[.string ⟨b.toArray⟩] z fun e w'=>∃ g c,e=.returned (.tuple #[.agg #[.int .i64 4,.int .i64 frm,.int .i64 0,.int .i64 place,.int .i64 agreed,.int .i64 last,.int .i64 lc,.int .i64 lt,.string ⟨s.toArray⟩,.slice (g.map fun k=>⟨k,0,none⟩) ls.length c],.int .i64 0])∧OwnLines z w' g c ls∧Below z.heap.size z w'):=fun z=>(refUnpack_any b z (Nat.le_trans hbn (by decide))).mono (by
    rintro e w' ⟨g,c,he,ho,hb⟩
    obtain ⟨u1,u2⟩:=un_yes hU
    rw [u1] at he ho
    rw [u2] at he
    exact ⟨g,c,he,ho,hb⟩)
  have HV:=hid h
  have c5:w.cell? ⟨B,5,none⟩=some (.bool false):=by rw [← hd];exact cell_of_heap h.blk 5
  have e1:(frm == v.me)=false:=by rw [beq_eq_false_iff_ne];exact hf1
  have e2:(v.kp≤frm)↔False:=iff_false_intro (by omega)
  have e3:v.kp≠0:=by omega
  have e4:((0:Int) != frm)=true:=by simp [hf0]
  clear h hd hU hk hf1 hf2
  go_enter Tryz.func63,Tryz.ntmps63
  go_wp2_with fail
  refine (HU.out _).mono ?_
  rintro e X ⟨g,c,rfl,ho,hb1⟩
  have HB:=hid (hb1.alloc hb1.size (.cells #[.int .i64 4,.int .i64 frm,.int .i64 0,.int .i64 place,.int .i64 agreed,.int .i64 last,.int .i64 lc,.int .i64 lt,.string ⟨s.toArray⟩,.slice (g.map fun k=>⟨k,0,none⟩) ls.length c] 30))
  have HO:=hid (ho.below ((Below.refl _ X).alloc (Nat.le_refl _) (.cells #[.int .i64 4,.int .i64 frm,.int .i64 0,.int .i64 place,.int .i64 agreed,.int .i64 last,.int .i64 lc,.int .i64 lt,.string ⟨s.toArray⟩,.slice (g.map fun k=>⟨k,0,none⟩) ls.length c] 30)))
  have HQ:Hid (Box X.heap.size (.int .i64 4) (.int .i64 frm) (.int .i64 0) (.int .i64 place) (.int .i64 agreed) (.int .i64 last) (.int .i64 lc) (.int .i64 lt) (.string ⟨s.toArray⟩) (.slice (g.map fun k=>⟨k,0,none⟩) ls.length c) (X.alloc (.cells #[.int .i64 4,.int .i64 frm,.int .i64 0,.int .i64 place,.int .i64 agreed,.int .i64 last,.int .i64 lc,.int .i64 lt,.string ⟨s.toArray⟩,.slice (g.map fun k=>⟨k,0,none⟩) ls.length c] 30))):=heap_alloc_new X _
  clear hb1 ho c5 HU
  go_wp2
  generalize X.alloc (.cells #[.int .i64 4,.int .i64 frm,.int .i64 0,.int .i64 place,.int .i64 agreed,.int .i64 last,.int .i64 lc,.int .i64 lt,.string ⟨s.toArray⟩,.slice (g.map fun k=>⟨k,0,none⟩) ls.length c] 30)=Y at *
  have HA:=hid (HV.out.below HB.out)
  have y0:Y.cell? ⟨B,0,none⟩=some (.int .i64 v.kp):=cell_of_heap HA.out.blk 0
  have y1:Y.cell? ⟨B,1,none⟩=some (.int .i64 v.me):=cell_of_heap HA.out.blk 1
  obtain ⟨r0,r1,r2,r3,r4,r5,r6,r7,r8,r9⟩:=box_cells HQ.out
  go_still_tail 17,(by kernel_rfl)
  go_wp2
  have HBY:=hid HB.out.drew
  have HQY:=hid (Box.drew HQ.out)
  have HOY:=hid (HO.out.below ((Below.refl _ Y).drew))
  clear HB HQ HA HO r0 r1 r2 r3 r4 r5 r6 r7 r8 r9 y0 y1
  generalize Y.drew=Z at *
  have HAZ:=hid (HV.out.below HBY.out)
  have y0:Z.cell? ⟨B,0,none⟩=some (.int .i64 v.kp):=cell_of_heap HAZ.out.blk 0
  have y1:Z.cell? ⟨B,1,none⟩=some (.int .i64 v.me):=cell_of_heap HAZ.out.blk 1
  obtain ⟨r0,r1,r2,r3,r4,r5,r6,r7,r8,r9⟩:=box_cells HQY.out
  go_still_tail 25,(by kernel_rfl)
  go_wp2
  go_ret2
  exact ⟨rfl,HBY.out.drew⟩
theorem refRej3_7 (hd:v.dead=false) (hk:v.kp=3∨v.kp=5) (b:List UInt8) (hbn:b.length≤10000000) (frm place agreed last lc lt:Int) (s:List UInt8) (ls:List Ln) (hU:unpackR b=some ⟨7,frm,0,place,agreed,last,⟨lc,lt,s⟩,ls⟩) (hf1:frm≠v.me) (hf2:frm < v.kp) (hf0:(0:Int)≠frm) :
    Calls Tryz.prog 63 #[.pointer (some ⟨B,0,none⟩),.string ⟨b.toArray⟩] w (NoRet w 3):=by
  have HU:Hid (∀ z,Calls Tryz.prog 97 #[.string ⟨b.toArray⟩] z fun e w'=>∃ g c,e=.returned (.tuple #[.agg #[.int .i64 7,.int .i64 frm,.int .i64 0,.int .i64 place,.int .i64 agreed,.int .i64 last,.int .i64 lc,.int .i64 lt,.string ⟨s.toArray⟩,.slice (g.map fun k=>⟨k,0,none⟩) ls.length c],.int .i64 0])∧OwnLines z w' g c ls∧Below z.heap.size z w'):=fun z=>(refUnpack_any b z (Nat.le_trans hbn (by decide))).mono (by
    rintro e w' ⟨g,c,he,ho,hb⟩
    obtain ⟨u1,u2⟩:=un_yes hU
    rw [u1] at he ho
    rw [u2] at he
    exact ⟨g,c,he,ho,hb⟩)
  have HV:=hid h
  have c5:w.cell? ⟨B,5,none⟩=some (.bool false):=by rw [← hd];exact cell_of_heap h.blk 5
  have e1:(frm == v.me)=false:=by rw [beq_eq_false_iff_ne];exact hf1
  have e2:(v.kp≤frm)↔False:=iff_false_intro (by omega)
  have e3:v.kp≠0:=by omega
  have e4:((0:Int) != frm)=true:=by simp [hf0]
  clear h hd hU hk hf1 hf2
  go_enter Tryz.func63,Tryz.ntmps63
  go_wp2_with fail
  refine (HU.out _).mono ?_
  rintro e X ⟨g,c,rfl,ho,hb1⟩
  have HB:=hid (hb1.alloc hb1.size (.cells #[.int .i64 7,.int .i64 frm,.int .i64 0,.int .i64 place,.int .i64 agreed,.int .i64 last,.int .i64 lc,.int .i64 lt,.string ⟨s.toArray⟩,.slice (g.map fun k=>⟨k,0,none⟩) ls.length c] 30))
  have HO:=hid (ho.below ((Below.refl _ X).alloc (Nat.le_refl _) (.cells #[.int .i64 7,.int .i64 frm,.int .i64 0,.int .i64 place,.int .i64 agreed,.int .i64 last,.int .i64 lc,.int .i64 lt,.string ⟨s.toArray⟩,.slice (g.map fun k=>⟨k,0,none⟩) ls.length c] 30)))
  have HQ:Hid (Box X.heap.size (.int .i64 7) (.int .i64 frm) (.int .i64 0) (.int .i64 place) (.int .i64 agreed) (.int .i64 last) (.int .i64 lc) (.int .i64 lt) (.string ⟨s.toArray⟩) (.slice (g.map fun k=>⟨k,0,none⟩) ls.length c) (X.alloc (.cells #[.int .i64 7,.int .i64 frm,.int .i64 0,.int .i64 place,.int .i64 agreed,.int .i64 last,.int .i64 lc,.int .i64 lt,.string ⟨s.toArray⟩,.slice (g.map fun k=>⟨k,0,none⟩) ls.length c] 30))):=heap_alloc_new X _
  clear hb1 ho c5 HU
  go_wp2
  generalize X.alloc (.cells #[.int .i64 7,.int .i64 frm,.int .i64 0,.int .i64 place,.int .i64 agreed,.int .i64 last,.int .i64 lc,.int .i64 lt,.string ⟨s.toArray⟩,.slice (g.map fun k=>⟨k,0,none⟩) ls.length c] 30)=Y at *
  have HA:=hid (HV.out.below HB.out)
  have y0:Y.cell? ⟨B,0,none⟩=some (.int .i64 v.kp):=cell_of_heap HA.out.blk 0
  have y1:Y.cell? ⟨B,1,none⟩=some (.int .i64 v.me):=cell_of_heap HA.out.blk 1
  obtain ⟨r0,r1,r2,r3,r4,r5,r6,r7,r8,r9⟩:=box_cells HQ.out
  go_still_tail 17,(by kernel_rfl)
  go_wp2
  have HBY:=hid HB.out.drew
  have HQY:=hid (Box.drew HQ.out)
  have HOY:=hid (HO.out.below ((Below.refl _ Y).drew))
  clear HB HQ HA HO r0 r1 r2 r3 r4 r5 r6 r7 r8 r9 y0 y1
  generalize Y.drew=Z at *
  have HAZ:=hid (HV.out.below HBY.out)
  have y0:Z.cell? ⟨B,0,none⟩=some (.int .i64 v.kp):=cell_of_heap HAZ.out.blk 0
  have y1:Z.cell? ⟨B,1,none⟩=some (.int .i64 v.me):=cell_of_heap HAZ.out.blk 1
  obtain ⟨r0,r1,r2,r3,r4,r5,r6,r7,r8,r9⟩:=box_cells HQY.out
  go_still_tail 25,(by kernel_rfl)
  go_wp2
  go_ret2
  exact ⟨rfl,HBY.out.drew⟩
end
end
section
open Go.RowKit
def LK.rv (s:LK) (g:Option Nat) (c:Nat):RV:=⟨s.kp,s.me,s.pa,s.d,s.arm,false,[],s.m,s.agreed,s.hs,g,c,[],none,0⟩
theorem lines_ne {w:World} {K:Nat} {cur:Array Value} {e:TypeId} {f:Nat × Nat} {g:Option Nat} {ls:List Ln} {x:Int} (hb:w.heap[K]?=some (.cells cur e f)) (h2:cur[2]?=some (.int .i64 x)) (h:LinesAt w (g.map fun k=>(⟨k,0,none⟩:Addr)) ls) (hn:ls≠[]):g≠some K:=by
  rintro rfl
  cases ls with
  | nil=>exact hn rfl
  | cons l ls =>
    obtain ⟨q,o,eq,_,_,h3⟩:=h 0 (by simp)
    cases eq
    have h4:=cell_of_heap hb 2
    have e1:(0+0 * 3+2:Nat)=2:=rfl
    first
      | rw [e1] at h3;rw [h3,h2] at h4;cases h4
      | (rw [h2] at h4;simp at h3;rw [h3] at h4;cases h4)
theorem ris_dead {w:World} {K:Nat} {G:Nat→Prop} {s:LK} (h:RIs w K G s) (hd:s.dead=true):∃ v:RV,v.At w K∧v.dead=true:=by
  obtain ⟨arm,m,ag,hs,g,c,h1,h2,h3,_,_⟩:=h
  rw [hd] at h1
  exact ⟨⟨s.kp,s.me,s.pa,s.d,arm,true,s.lost,m,ag,hs,g,c,[],none,0⟩,⟨h1,h2,h3,OwnOutsR.none_ _,fun hn=>lines_ne h1 rfl h2 hn,(fun _ k e=>by cases e)⟩,rfl⟩
theorem ris_alive {w:World} {K:Nat} {G:Nat→Prop} {s:LK} (h:RIs w K G s) (hd:s.dead=false):∃ g c,(s.rv g c).At w K∧∀ k,G k↔(k=K∨g=some k):=by
  obtain ⟨arm,m,ag,hs,g,c,h1,h2,h3,h4,h5⟩:=h
  obtain ⟨rfl,rfl,rfl,rfl⟩:=h4 hd
  have hl:s.lost=[]:=by
    unfold LK.dead at hd
    cases e:s.lost with
    | nil=>rfl
    | cons a l=>rw [e] at hd;cases hd
  rw [hd,hl] at h1
  exact ⟨g,c,⟨h1,h2,h3,OwnOutsR.none_ _,fun hn=>lines_ne h1 rfl h2 hn,(fun _ k e=>by cases e)⟩,h5⟩
def RDid (w:World) (K:Nat) (G:Nat→Prop) (d:Did) (e:Ending) (w':World):Prop :=
  ∃ g c G',e=.returned (.tuple #[.slice (g.map fun k=>⟨k,0,none⟩) d.os.length c,.int .i64 d.er])∧OwnOutsR w' g c d.os∧RIs w' K G' d.st∧Touch G w w'∧(∀ k,G' k→G k∨(w.heap.size≤k∧k < w'.heap.size))
theorem NoRet.did {w w':World} {K:Nat} {G:Nat→Prop} {s:LK} {n:Int} {e:Ending} (h:NoRet w n e w') (hK:RIs w K G s):RDid w K G ⟨[],n,s⟩ e w':=by
  obtain ⟨rfl,hb⟩:=h
  exact ⟨none,0,G,rfl,OwnOutsR.none_ _,hK.below hb,Touch.of_belowAll hb _,fun k e=>.inl e⟩
def RFor (v:RV) (s:LK) (d:Did) (u:RV):Prop :=
  (d.er=0∧d.st.lost=[]∧∃ g c sg sc,u=⟨d.st.kp,d.st.me,d.st.pa,d.st.d,d.st.arm,false,[],d.st.m,d.st.agreed,d.st.hs,g,c,d.os,sg,sc⟩∧(d.st.m.ls=[]→g=v.g))∨(∃ inner,d=⟨[],4,s.crash inner⟩∧u={ v with dead:=true,lost:=recBytes inner })
theorem DoneRet.did {w y:World} {K:Nat} {G:Nat→Prop} {s:LK} {g:Option Nat} {c:Nat} {d:Did} {e:Ending} (h:DoneRet w K (s.rv g c) (RFor (s.rv g c) s d) e y) (hG:∀ k,G k↔(k=K∨g=some k)):RDid w K G d e y:=by
  obtain ⟨u,hu,rfl,hc,ho,hsg⟩:=h
  have ht:Touch G w y:=hc.tch.mono (fun i _ e=>by
    rcases e with e | e
    · exact (hG i).2 (.inl e)
    · cases e)
  rcases hu with ⟨he,hl,g',c',sg,sc,rfl,hgg⟩ | ⟨inner,rfl,rfl⟩
  · have hd:d.st.dead=false:=by unfold LK.dead;rw [hl];rfl
    refine ⟨sg,sc,fun k=>k=K∨g'=some k,?_,ho,⟨d.st.arm,d.st.m,d.st.agreed,d.st.hs,g',c',?_,hc.at_.ls,hc.at_.lc,fun _=>⟨rfl,rfl,rfl,rfl⟩,fun k=>Iff.rfl⟩,ht,fun k e=>?_⟩
    · rw [he];rfl
    · rw [hd,hl];exact hc.at_.blk
    · rcases e with e | e
      · exact .inl ((hG k).2 (.inl e))
      · rcases hc.gn with q | q
        · change g'=g at q
          exact .inl ((hG k).2 (.inr (by rw [← q];exact e)))
        · by_cases hn:d.st.m.ls=[]
          · have q2:=hgg hn
            change g'=g at q2
            exact .inl ((hG k).2 (.inr (by rw [← q2];exact e)))
          · exact .inr ⟨q k e,hc.at_.ls.rowlt hn k e⟩
  · have hd:(s.crash inner).dead=true:=by
      unfold LK.dead LK.crash
      have:=recBytes_len inner
      cases e:recBytes inner with
      | nil=>rw [e] at this;simp at this
      | cons a l=>rfl
    refine ⟨none,0,fun k=>k=K∨g=some k,rfl,OwnOutsR.none_ _,⟨s.arm,s.m,s.agreed,s.hs,g,c,?_,hc.at_.ls,hc.at_.lc,fun e=>?_,fun k=>Iff.rfl⟩,ht,fun k e=>.inl ((hG k).2 e)⟩
    · rw [hd];exact hc.at_.blk
    · rw [hd] at e;cases e
theorem IvL.lead {s:LK} (hi:IvL s) (g:Option Nat) (c:Nat):(s.rv g c).Lead :=
  ⟨hi.conf.1,hi.v0.1,hi.v0.2,rfl,hi.l20,hi.ag,by have:=hi.len;have:=hi.l20;show s.d.length≤9900000;omega,hi.arm,rfl⟩
theorem RMov.chg {w y:World} {K:Nat} {v u:RV} (h:RMov w y K v u) (hn:∀ k,u.g=some k→w.heap.size≤k):RChg w y K v u:=⟨h.at_,h.tch,h.sn,.inr hn⟩
theorem RMov.of {w x y:World} {K:Nat} {v u:RV} (hb:Below w.heap.size w x) (hv:v.At w K) (h:RMov x y K v u):RMov w y K v u:=(RChg.same hv hb).mov.trans h
theorem holds_eq (s:LK) (hi:IvL s) (n:Nat):max s.agreed (min n s.m.ls.length)=min (max s.agreed n) s.m.ls.length:=by have:=hi.ag;omega
section
variable (s:LK) (hi:IvL s) (hl:s.lost=[]) (w:World) (K:Nat) (g:Option Nat) (c:Nat) (h:(s.rv g c).At w K)
include hi hl h
theorem refSayD (l:Ln) (hls:l.s.length≤8) (z:World) (hz:Below w.heap.size w z):Calls Tryz.prog 102 #[.pointer (some ⟨K,0,none⟩),.agg #[.int .i64 l.c,.int .i64 l.t,.string ⟨l.s.toArray⟩]] z fun e y=>e=.returned (.tuple #[])∧∃ u,RChg w y K (s.rv g c) u∧RFor (s.rv g c) s (s.say l) u:=by
  have hL:=hi.lead g c
  unfold LK.say
  by_cases hm:s.me=0
  · rw [if_neg (by simpa using hm)]
    refine refSay (s.rv g c) K z (h.below hz) _ hL hm s.kp.toNat hi.conf.nat.2.symm l hls ?_ ?_ ?_ ?_
    · intro ht y g' c' hc
      change l.t≤turnOf s.m.ls l.c at ht
      rw [if_pos ht]
      exact ⟨rfl,_,RChg.of hz h hc,.inl ⟨rfl,hl,g,c,g',c',rfl,fun _=>rfl⟩⟩
    · intro ht h2 y hc
      change turnOf s.m.ls l.c < l.t at ht
      change 20≤s.m.ls.length at h2
      rw [if_neg (by omega),if_pos h2]
      exact ⟨rfl,_,RChg.of hz h hc,.inl ⟨rfl,hl,g,c,none,0,rfl,fun _=>rfl⟩⟩
    · intro ht h2 ha y hc
      change turnOf s.m.ls l.c < l.t at ht
      change s.m.ls.length < 20 at h2
      change s.arm=1 at ha
      rw [if_neg (by omega),if_neg (by omega),if_pos ha]
      exact ⟨rfl,_,RChg.of hz h hc,.inr ⟨_,rfl,rfl⟩⟩
    · intro ht h2 ha y g' c' g2 c2 hc
      change turnOf s.m.ls l.c < l.t at ht
      change s.m.ls.length < 20 at h2
      change s.arm≠1 at ha
      rw [if_neg (by omega),if_neg (by omega),if_neg ha]
      exact ⟨rfl,_,RChg.of hz h hc,.inl ⟨rfl,hl,some g',c',g2,c2,rfl,fun e=>absurd e (by first | (show ¬ (s.m.ls++[_]=[]);simp) | simp)⟩⟩
  · rw [if_pos (by simpa using hm)]
    refine (refSayNot (s.rv g c) K z (h.below hz) hL (fun e=>hm e.symm) l).mono ?_
    rintro e y ⟨rfl,hc⟩
    exact ⟨rfl,_,RChg.of hz h hc,.inl ⟨rfl,hl,g,c,none,0,rfl,fun _=>rfl⟩⟩
theorem refPrepD (hm:s.me≠0) (frm last:Int) (p n:Nat) (l:Ln) (a:Option Addr) (fl cap:Nat) (hn:n≤20) (hp:p≤20) (hls:l.s.length≤8) (f:Fr) (ef:f.frm=frm) (ep:f.place=p) (en:f.agreed=n) (el:f.line=l) (z:World) (hz:Below w.heap.size w z) :
    Calls Tryz.prog 104 #[.pointer (some ⟨K,0,none⟩),.agg #[.int .i64 2,.int .i64 frm,.int .i64 0,.int .i64 p,.int .i64 n,.int .i64 last,.int .i64 l.c,.int .i64 l.t,.string ⟨l.s.toArray⟩,.slice a fl cap]] z fun e y=>e=.returned (.tuple #[])∧∃ u,RChg w y K (s.rv g c) u∧RFor (s.rv g c) s (s.prepared f) u:=by
  have hL:=hi.lead g c
  have hag:=hi.ag
  refine refHeard2 (s.rv g c) K z (h.below hz) _ hL (fun e=>hm e.symm) frm p n last l.c l.t l.s a fl cap (fun z1 hz1=>?_)
  have hw1:=hz.trans (hz1.mono hz.size)
  subst ef el
  have hhe:=holds_eq s hi n
  unfold LK.prepared
  rw [ep]
  refine refLed2 (s.rv g c) K z1 (h.below hw1) _ hL f.frm 0 last p n f.line a fl cap hn hp hls ?_ ?_ ?_ ?_ ?_
  · intro hq ht y hc
    change p=s.m.ls.length+1 at hq
    change f.line.t≤turnOf s.m.ls f.line.c at ht
    rw [if_pos (by omega),if_pos ht]
    exact ⟨rfl,_,RChg.of hw1 h hc,.inl ⟨rfl,hl,g,c,none,0,rfl,fun _=>rfl⟩⟩
  · intro hq ht ha y hc
    change p=s.m.ls.length+1 at hq
    change turnOf s.m.ls f.line.c < f.line.t at ht
    change s.arm=1 at ha
    rw [if_pos (by omega),if_neg (by omega),if_pos ha]
    exact ⟨rfl,_,RChg.of hw1 h hc,.inr ⟨_,rfl,rfl⟩⟩
  · intro hq ht ha y g' c' g2 c2 hc
    change p=s.m.ls.length+1 at hq
    change turnOf s.m.ls f.line.c < f.line.t at ht
    change s.arm≠1 at ha
    rw [if_pos (by omega),if_neg (by omega),if_neg ha]
    refine ⟨rfl,_,RChg.of hw1 h hc,.inl ⟨rfl,hl,some g',c',some g2,c2,?_,fun e=>absurd e (by first | (show ¬ (s.m.ls++[_]=[]);simp) | simp)⟩⟩
    have e1:(s.m.ls++[f.line]).length=s.m.ls.length+1:=by simp
    unfold LK.holding LK.wrote RV.push RV.holds RV.more LK.rv holdO
    dsimp only
    rw [e1,en]
    simp only [Int.toNat_natCast,List.nil_append]
    congr 1
    omega
  · intro hq y g' c' hc
    change s.m.ls.length+1 < p at hq
    rw [if_neg (by omega),if_pos (by omega)]
    exact ⟨rfl,_,RChg.of hw1 h hc,.inl ⟨rfl,hl,g,c,some g',c',rfl,fun _=>rfl⟩⟩
  · intro hq y g' c' hc
    change p≤s.m.ls.length at hq
    rw [if_neg (by omega),if_neg (by omega)]
    refine ⟨rfl,_,RChg.of hw1 h hc,.inl ⟨rfl,hl,g,c,some g',c',?_,fun _=>rfl⟩⟩
    unfold LK.holding RV.push RV.holds LK.rv holdO
    dsimp only
    rw [en]
    simp only [Int.toNat_natCast,List.nil_append]
    congr 1
theorem refBeatD (hm:s.me≠0) (frm place last lc lt:Int) (sb:List UInt8) (n:Nat) (a:Option Addr) (fl cap:Nat) (hn:n≤20) (f:Fr) (ef:f.frm=frm) (en:f.agreed=n) (z:World) (hz:Below w.heap.size w z) :
    Calls Tryz.prog 104 #[.pointer (some ⟨K,0,none⟩),.agg #[.int .i64 4,.int .i64 frm,.int .i64 0,.int .i64 place,.int .i64 n,.int .i64 last,.int .i64 lc,.int .i64 lt,.string ⟨sb.toArray⟩,.slice a fl cap]] z fun e y=>e=.returned (.tuple #[])∧∃ u,RChg w y K (s.rv g c) u∧RFor (s.rv g c) s (s.beaten f) u:=by
  have hL:=hi.lead g c
  have hag:=hi.ag
  refine refHeard4 (s.rv g c) K z (h.below hz) _ hL (fun e=>hm e.symm) frm place n last lc lt sb a fl cap (fun z1 hz1=>?_)
  have hw1:=hz.trans (hz1.mono hz.size)
  subst ef
  have hhe:=holds_eq s hi n
  unfold LK.beaten
  rw [en]
  refine refLed4 (s.rv g c) K z1 (h.below hw1) _ hL f.frm 0 place last lc lt sb a fl cap n hn ?_ ?_
  · intro hq y g' c' hc
    change s.m.ls.length < n at hq
    rw [if_pos (by omega)]
    exact ⟨rfl,_,RChg.of hw1 h hc,.inl ⟨rfl,hl,g,c,some g',c',rfl,fun _=>rfl⟩⟩
  · intro hq y g' c' hc
    change n≤s.m.ls.length at hq
    rw [if_neg (by omega)]
    refine ⟨rfl,_,RChg.of hw1 h hc,.inl ⟨rfl,hl,g,c,some g',c',?_,fun _=>rfl⟩⟩
    unfold LK.holding RV.push RV.holds LK.rv holdO
    dsimp only
    simp only [Int.toNat_natCast,List.nil_append]
    congr 1
theorem refBegunD (hm:s.me≠0) (frm place last lc lt:Int) (sb:List UInt8) (n:Nat) (hn:n≤20) (f:Fr) (ef:f.frm=frm) (en:f.agreed=n) (hok:linesOk f.lines=true) (z:World) (hz:Below w.heap.size w z) (g0:Option Nat) (c0:Nat) (ho:OwnLines w z g0 c0 f.lines) :
    Calls Tryz.prog 104 #[.pointer (some ⟨K,0,none⟩),.agg #[.int .i64 7,.int .i64 frm,.int .i64 0,.int .i64 place,.int .i64 n,.int .i64 last,.int .i64 lc,.int .i64 lt,.string ⟨sb.toArray⟩,.slice (g0.map fun k=>⟨k,0,none⟩) f.lines.length c0]] z fun e y=>e=.returned (.tuple #[])∧∃ u,RChg w y K (s.rv g c) u∧RFor (s.rv g c) s (s.begun f) u:=by
  have hL:=hi.lead g c
  have hag:=hi.ag
  refine refHeard7 (s.rv g c) K z (h.below hz) _ hL (fun e=>hm e.symm) frm place n last lc lt sb _ _ _ (fun z1 hz1=>?_)
  have hw1:=hz.trans (hz1.mono hz.size)
  subst ef
  have hhe:=holds_eq s hi n
  have hbl:=linesBytes_len hok
  unfold LK.begun
  refine refBegun (s.rv g c) K z1 (h.below hw1) _ hL f.frm place last lc lt sb n hn w g0 c0 f.lines (ho.below hz1) hok (by omega) ?_ ?_ ?_
  · intro hq ha y hc
    change s.m.ls.length < f.lines.length at hq
    change s.arm=1 at ha
    rw [if_pos hq,if_pos ha]
    exact ⟨rfl,_,RChg.of hw1 h hc,.inr ⟨_,rfl,rfl⟩⟩
  · intro hq ha y g' c' hc
    change s.m.ls.length < f.lines.length at hq
    change s.arm≠1 at ha
    rw [if_pos hq,if_neg ha]
    refine ⟨rfl,_,(RMov.of hw1 h hc).chg (fun k e=>ho.new k e),.inl ⟨rfl,hl,g0,c0,some g',c',?_,fun e=>by change f.lines=[] at e;rw [e] at hq;exact absurd hq (Nat.not_lt_zero _)⟩⟩
    unfold LK.holding LK.wrote RV.push RV.holds RV.took LK.rv holdO
    dsimp only
    rw [en]
    simp only [Int.toNat_natCast,List.nil_append]
    congr 1
    omega
  · intro hq y g' c' hc
    change f.lines.length≤s.m.ls.length at hq
    rw [if_neg (by omega)]
    refine ⟨rfl,_,RChg.of hw1 h hc,.inl ⟨rfl,hl,g,c,some g',c',?_,fun _=>rfl⟩⟩
    unfold LK.holding RV.push RV.holds LK.rv holdO
    dsimp only
    rw [en]
    simp only [Int.toNat_natCast,List.nil_append]
    congr 1
theorem refHoldD (agreed last lc lt:Int) (sb:List UInt8) (t p:Nat) (a:Option Addr) (fl cap:Nat) (f:Fr) (ef:f.frm=t) (ep:f.place=p) (h3:f.kind=3) (ht:t < 5) (z:World) (hz:Below w.heap.size w z) :
    Calls Tryz.prog 104 #[.pointer (some ⟨K,0,none⟩),.agg #[.int .i64 3,.int .i64 t,.int .i64 0,.int .i64 p,.int .i64 agreed,.int .i64 last,.int .i64 lc,.int .i64 lt,.string ⟨sb.toArray⟩,.slice a fl cap]] z fun e y=>e=.returned (.tuple #[])∧∃ u,RChg w y K (s.rv g c) u∧RFor (s.rv g c) s (s.heardK f) u:=by
  have hL:=hi.lead g c
  have hkn:=hi.conf.nat
  unfold LK.heardK
  by_cases hm:s.me=0
  · rw [if_pos hm,if_pos h3]
    refine refHeard3 (s.rv g c) K z (h.below hz) _ hL hm t p agreed last lc lt sb a fl cap (fun z1 hz1=>?_)
    have hw1:=hz.trans (hz1.mono hz.size)
    unfold LK.held
    rw [ef,ep,Int.toNat_natCast]
    rcases Nat.lt_or_ge s.m.ls.length p with q | q
    · rw [if_pos (by omega)]
      refine (refHeldNo (s.rv g c) K z1 (h.below hw1) hL 0 agreed last lc lt sb a fl cap t p q).mono ?_
      rintro e y ⟨rfl,hc⟩
      exact ⟨rfl,_,RChg.of hw1 h hc,.inl ⟨rfl,hl,g,c,none,0,rfl,fun _=>rfl⟩⟩
    · rw [if_neg (by omega)]
      have hh1:∀ j,0≤holdsSet s.hs t (max (s.hs t) p) j∧holdsSet s.hs t (max (s.hs t) p) j≤s.m.ls.length:=by
        intro j
        have:=hi.hs j
        have:=hi.hs t
        unfold holdsSet
        split <;> omega
      have hge:=heldFew_ge _ s.me s.kp.toNat hkn.1 hi.conf.rng (fun j=>(hh1 j).1)
      have hle:=heldFew_le _ s.me s.kp.toNat hkn.1 hi.conf.rng s.m.ls.length (fun j=>(hh1 j).2)
      have hiff:=fun x=>heldFew_iff (holdsSet s.hs t (max (s.hs t) p)) s.me s.kp.toNat hkn.1 hi.conf.rng x
      refine refHeld (s.rv g c) K z1 (h.below hw1) _ hL 0 agreed last lc lt sb a fl cap t p s.kp.toNat (heldFew (holdsSet s.hs t (max (s.hs t) p)) s.me s.kp.toNat).toNat hkn.2.symm ht q _ rfl (by show _≤s.m.ls.length;omega) (fun x=>?_) ?_
      · refine (hiff x).trans ?_
        omega
      · intro y g' c' hc
        exact ⟨rfl,_,RChg.of hw1 h hc,.inl ⟨rfl,hl,g,c,g',c',rfl,fun _=>rfl⟩⟩
  · rw [if_neg hm,if_neg (by omega),if_neg (by omega),if_neg (by omega)]
    exact refHeard3n (s.rv g c) K z (h.below hz) _ hL (fun e=>hm e.symm) t p agreed last lc lt sb a fl cap (fun z1 hz1=>⟨_,RChg.same h (hz.trans (hz1.mono hz.size)),.inl ⟨rfl,hl,g,c,none,0,rfl,fun _=>rfl⟩⟩)
theorem refLagD (frm place agreed last lc lt:Int) (sb:List UInt8) (a:Option Addr) (fl cap:Nat) (f:Fr) (ef:f.frm=frm) (h8:f.kind=8) (z:World) (hz:Below w.heap.size w z) :
    Calls Tryz.prog 104 #[.pointer (some ⟨K,0,none⟩),.agg #[.int .i64 8,.int .i64 frm,.int .i64 0,.int .i64 place,.int .i64 agreed,.int .i64 last,.int .i64 lc,.int .i64 lt,.string ⟨sb.toArray⟩,.slice a fl cap]] z fun e y=>e=.returned (.tuple #[])∧∃ u,RChg w y K (s.rv g c) u∧RFor (s.rv g c) s (s.heardK f) u:=by
  have hL:=hi.lead g c
  unfold LK.heardK
  subst ef
  by_cases hm:s.me=0
  · rw [if_pos hm,if_neg (by omega)]
    exact refHeard8 (s.rv g c) K z (h.below hz) _ hL hm f.frm place agreed last lc lt sb a fl cap (by show 0≤1000;omega) (fun y g' c' hc=>⟨_,RChg.of hz h hc,.inl ⟨rfl,hl,g,c,some g',c',rfl,fun _=>rfl⟩⟩)
  · rw [if_neg hm,if_neg (by omega),if_neg (by omega),if_neg (by omega)]
    exact refHeard8n (s.rv g c) K z (h.below hz) _ hL (fun e=>hm e.symm) f.frm place agreed last lc lt sb a fl cap (fun z1 hz1=>⟨_,RChg.same h (hz.trans (hz1.mono hz.size)),.inl ⟨rfl,hl,g,c,none,0,rfl,fun _=>rfl⟩⟩)
end
theorem docHeard (s:LK) (hi:IvL s) (w:World) (K:Nat) (G:Nat→Prop) (hK:RIs w K G s) (b:List UInt8) (hbn:b.length≤10000000) (ho:¬ otherB b) :
    Calls Tryz.prog 63 #[.pointer (some ⟨K,0,none⟩),.string ⟨b.toArray⟩] w (RDid w K G (s.heard b)):=by
  unfold LK.heard
  cases hd:s.dead with
  | true =>
    rw [if_pos rfl]
    obtain ⟨v,hv,hvd⟩:=ris_dead hK hd
    exact (refHeardDead v K w hv hvd _).mono fun e y q=>q.did hK
  | false =>
    rw [if_neg (by simp)]
    have hl:s.lost=[]:=by
      unfold LK.dead at hd
      cases e:s.lost with
      | nil=>rfl
      | cons a l=>rw [e] at hd;cases hd
    obtain ⟨g,c,h,hG⟩:=ris_alive hK hd
    cases hR:unpackR b with
    | none=>exact (refHeardNo _ K w h rfl b hbn hR).mono fun e y q=>q.did hK
    | some f =>
      show Calls _ _ _ _ (RDid w K G (s.heardF f))
      obtain ⟨fok,fk1,fk9⟩:=unpackR_ok hR
      obtain ⟨⟨f0,f4⟩,⟨p0,p1⟩,⟨a0,a1⟩⟩:=Fr.okP fok
      have parts:=Fr.ok_parts fok
      have hk:=hi.conf.1
      have no5:f.kind≠5:=fun e=>ho ⟨f,hR,.inl e⟩
      have no6:f.kind≠6:=fun e=>ho ⟨f,hR,.inr (.inl e)⟩
      have hvw:f.kind≠1→f.view=0:=fun e=>Classical.byContradiction fun e2=>ho ⟨f,hR,.inr (.inr ⟨e,e2⟩)⟩
      have hcase:f.kind=1∨f.kind=2∨f.kind=3∨f.kind=4∨f.kind=7∨f.kind=8∨f.kind=9:=by omega
      have hle:s.kp≤5:=by rcases hk with e | e <;> omega
      clear ho
      obtain ⟨kind,frm,view,place,agreed,last,⟨lc,lt,sb⟩,ls⟩:=f
      dsimp only at *
      obtain ⟨t,rfl⟩:∃ t:Nat,frm=t:=⟨frm.toNat,by omega⟩
      obtain ⟨p,rfl⟩:∃ p:Nat,place=p:=⟨place.toNat,by omega⟩
      obtain ⟨n,rfl⟩:∃ n:Nat,agreed=n:=⟨agreed.toNat,by omega⟩
      unfold LK.heardF
      dsimp only
      by_cases e9:kind=9
      · subst e9
        rw [if_pos rfl]
        exact (refHeard9 _ K w h rfl b hbn _ _ _ _ _ _ _ _ _ hR).mono fun e y q=>q.did hK
      rw [if_neg e9]
      by_cases e1:kind=1
      · subst e1
        rw [if_pos rfl]
        have hlok:=parts.2.2.1 (by decide)
        exact (refHeardSay _ K w h _ rfl b hbn _ _ _ _ _ _ _ _ _ hR (fun z hz=>refSayD s hi hl w K g c h ⟨lc,lt,sb⟩ (Ln.ok_len hlok) z hz)).mono fun e y q=>q.did hG
      rw [if_neg e1]
      obtain rfl:=hvw e1
      by_cases hs:(t:Int)=s.me∨s.kp≤t
      · rw [if_pos hs]
        by_cases hs1:(t:Int)=s.me
        · rw [hs1] at hR
          exact (refRej1 (s.rv g c) K w h rfl b hbn kind p n last lc lt sb ls hR e1 e9).mono fun e y q=>q.did hK
        · exact (refRej2 (s.rv g c) K w h rfl b hbn kind t p n last lc lt sb ls hR e1 e9 hs1 (by show s.kp≤t;omega)).mono fun e y q=>q.did hK
      · rw [if_neg hs]
        have hs1:(t:Int)≠s.me:=fun e=>hs (.inl e)
        have hs2:(t:Int) < s.kp:=by omega
        by_cases hz0:t=0
        · subst hz0
          rw [if_neg (fun q=>q.2 rfl)]
          have hm:s.me≠0:=fun q=>hs1 (by rw [q];rfl)
          rcases hcase with e | e | e | e | e | e | e
          · exact absurd e e1
          · subst e
            show Calls _ _ _ _ (RDid w K G (s.heardK _))
            unfold LK.heardK
            rw [if_neg hm,if_pos rfl]
            have hlok:=parts.2.2.1 (by decide)
            exact (refTake2 (s.rv g c) K w h _ rfl hk b hbn p n last lc lt sb ls hR hs1 (fun z g0 c0 hz hol=>refPrepD s hi hl w K g c h hm 0 last p n ⟨lc,lt,sb⟩ _ _ _ (by omega) (by omega) (Ln.ok_len hlok) ⟨2,((0:Nat):Int),0,p,n,last,⟨lc,lt,sb⟩,ls⟩ rfl rfl rfl rfl z hz)).mono fun e y q=>q.did hG
          · subst e
            exact (refTake3 (s.rv g c) K w h _ rfl hk b hbn _ p n last lc lt sb ls hR hs1 hs2 (fun z g0 c0 hz hol=>refHoldD s hi hl w K g c h n last lc lt sb 0 p _ _ _ ⟨3,((0:Nat):Int),0,p,n,last,⟨lc,lt,sb⟩,ls⟩ rfl rfl rfl (by omega) z hz)).mono fun e y q=>q.did hG
          · subst e
            show Calls _ _ _ _ (RDid w K G (s.heardK _))
            unfold LK.heardK
            rw [if_neg hm,if_neg (by show ¬ (4:Int)=2;omega),if_pos rfl]
            exact (refTake4 (s.rv g c) K w h _ rfl hk b hbn p n last lc lt sb ls hR hs1 (fun z g0 c0 hz hol=>refBeatD s hi hl w K g c h hm 0 p last lc lt sb n _ _ _ (by omega) ⟨4,((0:Nat):Int),0,p,n,last,⟨lc,lt,sb⟩,ls⟩ rfl rfl z hz)).mono fun e y q=>q.did hG
          · subst e
            show Calls _ _ _ _ (RDid w K G (s.heardK _))
            unfold LK.heardK
            rw [if_neg hm,if_neg (by show ¬ (7:Int)=2;omega),if_neg (by show ¬ (7:Int)=4;omega),if_pos rfl]
            exact (refTake7 (s.rv g c) K w h _ rfl hk b hbn p n last lc lt sb ls hR hs1 (fun z g0 c0 hz hol=>refBegunD s hi hl w K g c h hm 0 p last lc lt sb n (by omega) ⟨7,((0:Nat):Int),0,p,n,last,⟨lc,lt,sb⟩,ls⟩ rfl rfl (parts.2.2.2.2.1 (by decide)) z hz g0 c0 hol)).mono fun e y q=>q.did hG
          · subst e
            exact (refTake8 (s.rv g c) K w h _ rfl hk b hbn _ p n last lc lt sb ls hR hs1 hs2 (fun z g0 c0 hz hol=>refLagD s hi hl w K g c h _ p n last lc lt sb _ _ _ ⟨8,((0:Nat):Int),0,p,n,last,⟨lc,lt,sb⟩,ls⟩ rfl rfl z hz)).mono fun e y q=>q.did hG
          · exact absurd e e9
        · have hz1:(t:Int)≠0:=by omega
          rcases hcase with e | e | e | e | e | e | e
          · exact absurd e e1
          · subst e
            rw [if_pos ⟨.inl rfl,hz1⟩]
            exact (refRej3_2 (s.rv g c) K w h rfl hk b hbn _ _ _ _ _ _ _ _ hR hs1 hs2 (Ne.symm hz1)).mono fun e y q=>q.did hK
          · subst e
            rw [if_neg (by omega)]
            exact (refTake3 (s.rv g c) K w h _ rfl hk b hbn _ p n last lc lt sb ls hR hs1 hs2 (fun z g0 c0 hz hol=>refHoldD s hi hl w K g c h n last lc lt sb t p _ _ _ ⟨3,t,0,p,n,last,⟨lc,lt,sb⟩,ls⟩ rfl rfl rfl (by omega) z hz)).mono fun e y q=>q.did hG
          · subst e
            rw [if_pos ⟨.inr (.inl rfl),hz1⟩]
            exact (refRej3_4 (s.rv g c) K w h rfl hk b hbn _ _ _ _ _ _ _ _ hR hs1 hs2 (Ne.symm hz1)).mono fun e y q=>q.did hK
          · subst e
            rw [if_pos ⟨.inr (.inr rfl),hz1⟩]
            exact (refRej3_7 (s.rv g c) K w h rfl hk b hbn _ _ _ _ _ _ _ _ hR hs1 hs2 (Ne.symm hz1)).mono fun e y q=>q.did hK
          · subst e
            rw [if_neg (by omega)]
            exact (refTake8 (s.rv g c) K w h _ rfl hk b hbn _ p n last lc lt sb ls hR hs1 hs2 (fun z g0 c0 hz hol=>refLagD s hi hl w K g c h _ p n last lc lt sb _ _ _ ⟨8,t,0,p,n,last,⟨lc,lt,sb⟩,ls⟩ rfl rfl z hz)).mono fun e y q=>q.did hG
          · exact absurd e e9
theorem docArm (s:LK) (n:Int) (w:World) (K:Nat) (G:Nat→Prop) (hK:RIs w K G s) :
    Calls Tryz.prog 60 #[.pointer (some ⟨K,0,none⟩),.int .i64 n] w fun e w'=>e=.returned (.tuple #[])∧RIs w' K G (s.armed n)∧Touch G w w':=by
  obtain ⟨arm,m,ag,hs,g,c,h1,h2,h3,h4,h5⟩:=hK
  have hv:(⟨s.kp,s.me,s.pa,s.d,arm,s.dead,s.lost,m,ag,hs,g,c,[],none,0⟩:RV).At w K:=⟨h1,h2,h3,OwnOutsR.none_ _,fun hn=>lines_ne h1 rfl h2 hn,(fun _ k e=>by cases e)⟩
  refine (refArm _ K w hv n).mono ?_
  rintro e y ⟨rfl,hc⟩
  refine ⟨rfl,⟨max n 0,m,ag,hs,g,c,hc.at_.blk,hc.at_.ls,hc.at_.lc,fun hd=>?_,h5⟩,hc.tch.mono (fun i _ e=>?_)⟩
  · obtain ⟨_,q2,q3,q4⟩:=h4 hd
    exact ⟨rfl,q2,q3,q4⟩
  · rcases e with e | e
    · exact (h5 i).2 (.inl e)
    · cases e
end
end Go.Proofs.YtolififimldmlaaGreat
