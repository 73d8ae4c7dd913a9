import Derived.Test.YtolififimldmlaaGreatPart42
import Derived.Test.YtolififimldmlaaGreatPart14
import Derived.Test.YtolififimldmlaaGreatPart41
set_option linter.unusedVariables false
set_option linter.unusedSimpArgs false
set_option maxRecDepth 100000
set_option maxHeartbeats 16000000
namespace Go.Proofs.YtolififimldmlaaGreat
section
theorem linesOk_snoc {ls:List Ln} {l:Ln} (h:linesOk ls=true) (hl:l.ok=true) (ht:turnOf ls l.c < l.t) (h20:ls.length < 20):linesOk (ls++[l])=true:=by
  unfold linesOk at h ⊢
  simp only [Bool.and_eq_true,decide_eq_true_eq] at h ⊢
  rw [List.length_append,List.length_singleton,linesRise_succ]
  refine ⟨?_,by omega⟩
  rw [Bool.and_eq_true]
  constructor
  · have h1:=h.1
    unfold linesRise at h1 ⊢
    rw [List.all_eq_true] at h1 ⊢
    intro i hi
    have:=h1 i hi
    rw [List.mem_range] at hi
    unfold riseAt at this ⊢
    rw [getD_at ls i _ hi] at this
    rw [getD_at (ls++[l]) i _ (by rw [List.length_append];omega),List.getElem_append_left hi,List.take_append_of_le_length (by omega)]
    exact this
  · unfold riseAt
    rw [getD_at (ls++[l]) ls.length _ (by simp),List.getElem_append_right (Nat.le_refl _),List.take_left]
    simp only [Nat.sub_self,List.getElem_cons_zero,Bool.and_eq_true,decide_eq_true_eq]
    exact ⟨hl,ht⟩
theorem doesM_line {m:Mm} {l:Ln} (hv:m.view=0∧m.last=0) (h:linesOk m.ls=true) (hl:l.ok=true) (ht:turnOf m.ls l.c < l.t) (h20:m.ls.length < 20):doesM m (1 :: lineBytes l)=some ⟨m.view,m.last,m.ls++[l]⟩:=by
  unfold doesM
  rw [candM_line m l (Ln.ok_fits hl)]
  simp only [Option.bind_some]
  rw [if_pos]
  unfold okM
  simp only [Bool.and_eq_true,decide_eq_true_eq]
  exact ⟨⟨by omega,by omega⟩,linesOk_snoc h hl ht h20⟩
theorem doesM_all (m:Mm) {ls:List Ln} (h:linesOk ls=true):doesM m (3 :: 0 :: linesBytes ls)=some ⟨0,0,ls⟩:=by
  unfold doesM
  rw [candM_all m ls h]
  simp only [Option.bind_some]
  rw [if_pos]
  unfold okM
  simp only [Bool.and_eq_true,decide_eq_true_eq]
  exact ⟨⟨by omega,by omega⟩,h⟩
structure Did.Ok (d:Did):Prop where
  iv:IvL d.st
  n20:d.os.length≤20
  bs:∀ o ∈ d.os,o.b.length≤400
theorem Did.Ok.no {s:LK} (h:IvL s) (er:Int):(Did.mk [] er s).Ok:=⟨h,Nat.zero_le _,fun o ho=>absurd ho (by simp)⟩
theorem IvL.crash {s:LK} (h:IvL s) (inner:List UInt8) (m':Mm) (hi:inner.length≤250) (hd:doesM s.m inner=some m') (hv:m'.view=0∧m'.last=0) (hn:s.m.ls.length < m'.ls.length):IvL (s.crash inner) :=
  ⟨h.conf,h.v0,h.rd,h.len,h.lok,h.ag,h.hs,h.few,h.arm,.inr ⟨inner,m',rfl,hi,hd,hv.1,hv.2,hn⟩⟩
theorem armNext_in {a:Int} (h:0≤a∧a≤9223372036854775807):0≤armNext a∧armNext a≤9223372036854775807:=by
  unfold armNext;split <;> omega
theorem okM_lok {m:Mm} (h:okM m=true):linesOk m.ls=true:=by
  unfold okM at h
  simp only [Bool.and_eq_true] at h
  exact h.2
theorem IvL.wrote {s:LK} (h:IvL s) (hl:s.lost=[]) (inner:List UInt8) (m':Mm) (hi:inner.length≤250) (hd:doesM s.m inner=some m') (hv:m'.view=0∧m'.last=0) (hn:s.m.ls.length < m'.ls.length):IvL (s.wrote inner m'):=by
  have h1:=h.len
  have h2:=h.ag
  refine ⟨h.conf,hv,readD_rec h.rd inner (by omega) hd,?_,okM_lok (doesM_ok hd),?_,fun j=>?_,h.few,armNext_in h.arm,.inl hl⟩
  · show (s.d++recBytes inner).length≤9000000+300 * m'.ls.length
    rw [List.length_append,recBytes_len];omega
  · show s.agreed≤m'.ls.length
    omega
  · have:=h.hs j
    show 0≤s.hs j∧s.hs j≤m'.ls.length
    omega
theorem ConfOk.rng {kp me pa:Int} (h:ConfOk kp me pa):0≤me∧me < kp.toNat:=by
  have:=h.nat.2
  have:=h.2
  omega
theorem IvL.noHolds {s:LK} (h:IvL s):IvL { s with hs:=fun _=>0 } :=
  ⟨h.conf,h.v0,h.rd,h.len,h.lok,h.ag,fun j=>⟨Int.le_refl _,Int.natCast_nonneg _⟩,by
    show heldFew (fun _=>0) s.me s.kp.toNat≤s.agreed
    rw [heldFew_zero s.me _ h.conf.nat.1 h.conf.rng]
    exact Int.natCast_nonneg _,h.arm,h.lost⟩
theorem IvL.holding {s:LK} (h:IvL s) (tk a:Int):(s.holding tk a).Ok:=by
  have h1:=h.ag
  have h2:=h.few
  refine ⟨⟨h.conf,h.v0,h.rd,h.len,h.lok,?_,h.hs,?_,h.arm,h.lost⟩,by show 1≤20;omega,fun o ho=>?_⟩
  · show min (max s.agreed a.toNat) s.m.ls.length≤s.m.ls.length
    omega
  · show heldFew s.hs s.me s.kp.toNat≤((min (max s.agreed a.toNat) s.m.ls.length:Nat):Int)
    omega
  · unfold LK.holding at ho
    simp only [List.mem_singleton] at ho
    subst ho
    exact packS_len _
theorem IvL.lagging {s:LK} (h:IvL s) (tk:Int):(s.lagging tk).Ok:=by
  refine ⟨h,by show 1≤20;omega,fun o ho=>?_⟩
  unfold LK.lagging at ho
  simp only [List.mem_singleton] at ho
  subst ho
  exact packS_len _
theorem IvL.held {s:LK} (h:IvL s) (f:Fr):(s.held f).Ok:=by
  unfold LK.held
  split
  · exact Did.Ok.no h 0
  · rename_i hp
    have h1:=h.ag
    have h20:=h.l20
    have hh:∀ j,0≤holdsSet s.hs f.frm.toNat (max (s.hs f.frm.toNat) f.place) j∧holdsSet s.hs f.frm.toNat (max (s.hs f.frm.toNat) f.place) j≤s.m.ls.length:=by
      intro j
      have:=h.hs j
      have:=h.hs f.frm.toNat
      unfold holdsSet
      split <;> omega
    have hle:=heldFew_le _ s.me s.kp.toNat h.conf.nat.1 h.conf.rng s.m.ls.length (fun j=>(hh j).2)
    generalize holdsSet s.hs f.frm.toNat (max (s.hs f.frm.toNat) f.place)=hs' at *
    generalize hF:heldFew hs' s.me s.kp.toNat=F at *
    refine ⟨⟨h.conf,h.v0,h.rd,h.len,h.lok,?_,hh,?_,h.arm,h.lost⟩,?_,fun o ho=>?_⟩
    · show max s.agreed F.toNat≤s.m.ls.length
      omega
    · show heldFew hs' s.me s.kp.toNat≤((max s.agreed F.toNat:Nat):Int)
      rw [hF];omega
    · show (toldL s.m s.agreed (max s.agreed F.toNat - s.agreed)).length≤20
      rw [toldL_len];omega
    · change o ∈ toldL s.m s.agreed (max s.agreed F.toNat - s.agreed) at ho
      unfold toldL at ho
      rw [List.mem_map] at ho
      obtain ⟨j,_,rfl⟩:=ho
      exact packS_len _
theorem toAll_ok (s:LK) (g:Int→Fr) (hc:ConfOk s.kp s.me s.pa):((othersL s.me s.kp.toNat).map fun t=>(⟨false,t,packS (g t)⟩:OutG)).length≤20∧∀ o ∈ ((othersL s.me s.kp.toNat).map fun t=>(⟨false,t,packS (g t)⟩:OutG)),o.b.length≤400:=by
  constructor
  · rw [List.length_map]
    have:=othersL_len s.me s.kp.toNat
    have:=hc.nat.1
    omega
  · intro o ho
    rw [List.mem_map] at ho
    obtain ⟨j,_,rfl⟩:=ho
    exact packS_len _
theorem lineRec_len {l:Ln} (h:l.ok=true):(1 :: lineBytes l).length≤250:=by
  have:=Ln.ok_len h
  unfold lineBytes
  simp
  omega
theorem IvL.say {s:LK} (h:IvL s) (hl:s.lost=[]) (l:Ln) (hok:l.ok=true):(s.say l).Ok:=by
  unfold LK.say
  split
  · exact Did.Ok.no h 0
  · split
    · refine ⟨h,?_,fun o ho=>?_⟩
      · show (tellsN s.m l s.agreed).length≤20
        unfold tellsN
        rw [List.length_map]
        have h1:=List.length_filter_le (fun n=>sameTurn l (s.m.ls.getD n Ln.zero)) (List.range s.agreed)
        rw [List.length_range] at h1
        have:=h.ag
        have:=h.l20
        omega
      · change o ∈ tellsN s.m l s.agreed at ho
        unfold tellsN at ho
        rw [List.mem_map] at ho
        obtain ⟨j,_,rfl⟩:=ho
        exact packS_len _
    · split
      · exact Did.Ok.no h 0
      · rename_i h1 h2 h3
        have hd:=doesM_line h.v0 h.lok hok (by omega) (by omega)
        split
        · exact Did.Ok.no (h.crash _ _ (lineRec_len hok) hd h.v0 (by simp)) 4
        · have ha:=toAll_ok s (fun _=>⟨2,s.me,s.m.view,(s.m.ls.length+1:Nat),s.agreed,0,l,[]⟩) h.conf
          exact ⟨h.wrote hl _ _ (lineRec_len hok) hd h.v0 (by simp),ha.1,ha.2⟩
theorem IvL.prepared {s:LK} (h:IvL s) (hl:s.lost=[]) (f:Fr) (hok:f.line.ok=true) (hp:f.place≤20):(s.prepared f).Ok:=by
  unfold LK.prepared
  split
  · split
    · exact Did.Ok.no h 0
    · rename_i h1 h2
      have hd:=doesM_line h.v0 h.lok hok (by omega) (by omega)
      split
      · exact Did.Ok.no (h.crash _ _ (lineRec_len hok) hd h.v0 (by simp)) 4
      · exact (h.wrote hl _ _ (lineRec_len hok) hd h.v0 (by simp)).holding _ _
  · split
    · exact h.lagging _
    · exact h.holding _ _
theorem IvL.beaten {s:LK} (h:IvL s) (f:Fr):(s.beaten f).Ok:=by
  unfold LK.beaten
  split
  · exact h.lagging _
  · exact h.holding _ _
theorem IvL.begun {s:LK} (h:IvL s) (hl:s.lost=[]) (f:Fr) (hok:linesOk f.lines=true):(s.begun f).Ok:=by
  unfold LK.begun
  have hb:=linesBytes_len hok
  have hb2:(3 :: 0 :: linesBytes f.lines).length≤250:=by simp only [List.length_cons];omega
  have hd:=doesM_all s.m hok
  split
  · rename_i h1
    split
    · exact Did.Ok.no (h.crash _ _ hb2 hd ⟨rfl,rfl⟩ h1) 4
    · exact (h.wrote hl _ _ hb2 hd ⟨rfl,rfl⟩ h1).noHolds.holding _ _
  · exact h.holding _ _
theorem IvL.heard {s:LK} (h:IvL s) (b:List UInt8):(s.heard b).Ok:=by
  unfold LK.heard
  split
  · exact Did.Ok.no h 5
  · rename_i hd
    have hl:s.lost=[]:=by
      unfold LK.dead at hd
      cases e:s.lost with
      | nil=>rfl
      | cons a l=>rw [e] at hd;exact absurd rfl hd
    cases hR:unpackR b with
    | none=>exact Did.Ok.no h 3
    | some f =>
      show (s.heardF f).Ok
      obtain ⟨fok,_,_⟩:=unpackR_ok hR
      obtain ⟨_,hpl,_⟩:=Fr.okP fok
      have parts:=Fr.ok_parts fok
      unfold LK.heardF
      split
      · exact Did.Ok.no h 3
      · split
        · rename_i e
          exact h.say hl _ (parts.2.2.1 (by rw [e];decide))
        · split
          · exact Did.Ok.no h 3
          · split
            · exact Did.Ok.no h 3
            · unfold LK.heardK
              split
              · split
                · exact h.held f
                · refine ⟨h,by show 1≤20;omega,fun o ho=>?_⟩
                  simp only [List.mem_singleton] at ho
                  subst ho
                  exact packS_len _
              · split
                · rename_i e
                  exact h.prepared hl f (parts.2.2.1 (by rw [e];decide)) hpl.2
                · split
                  · exact h.beaten f
                  · split
                    · rename_i e
                      exact h.begun hl f (parts.2.2.2.2.1 (by rw [e];decide))
                    · exact Did.Ok.no h 0
theorem IvL.tick {s:LK} (h:IvL s):s.tick.Ok:=by
  unfold LK.tick
  split
  · exact Did.Ok.no h 5
  · have ha:=toAll_ok s s.reminder h.conf
    exact ⟨h,ha.1,ha.2⟩
theorem IvL.armed {s:LK} (h:IvL s) (n:Int) (hn:n≤9223372036854775807):IvL (s.armed n) :=
  ⟨h.conf,h.v0,h.rd,h.len,h.lok,h.ag,h.hs,h.few,by show 0≤max n 0∧max n 0≤9223372036854775807;omega,h.lost⟩
end
section
open Go.RowKit
attribute [local go_sem ↓] Go.wp_at_zero Go.wp_at_succ
theorem RMov.box {x y:World} {B Q:Nat} {v u:RV} {v0 v1 v2 v3 v4 v5 v6 v7 v8 v9:Value} (h:RMov x y B v u) (hv:v.At x B) (hb:Box Q v0 v1 v2 v3 v4 v5 v6 v7 v8 v9 x):Box Q v0 v1 v2 v3 v4 v5 v6 v7 v8 v9 y :=
  hb.touch' h.tch (fun e=>by
    rcases e with e | e
    · subst e
      have h1:=hv.blk
      have h2:x.heap[Q]?=_:=hb
      rw [h1] at h2
      simp at h2
    · exact RowT.ne hv.so.own hb (by decide) e)
section
variable (v:RV) (B:Nat) (w:World) (h:v.At w B)
include h
theorem refBegun (Q:Ending→World→Prop) (hl:v.Lead) (frm place last lc lt:Int) (s:List UInt8) (n:Nat) (hn:n≤20) (w0:World) (g:Option Nat) (c:Nat) (ls:List Ln) (ho:OwnLines w0 w g c ls) (hls:linesOk ls=true) (hbl:(linesBytes ls).length≤300)
    (H1:v.m.ls.length < ls.length→v.arm=1→∀ y,RChg w y B v { v with dead:=true,lost:=recBytes (3 :: 0 :: linesBytes ls) }→Q (.returned (.tuple #[])) y)
    (H2:v.m.ls.length < ls.length→v.arm≠1→∀ y g' c',RMov w y B v (((v.took ls (armNext v.arm) g c).holds n).push (holdO v.me 0 ls.length frm) g' c')→Q (.returned (.tuple #[])) y)
    (H3:ls.length≤v.m.ls.length→∀ y g' c',RChg w y B v ((v.holds n).push (holdO v.me v.m.view v.m.ls.length frm) g' c')→Q (.returned (.tuple #[])) y) :
    Calls Tryz.prog 157 #[.pointer (some ⟨B,0,none⟩),.agg #[.int .i64 7,.int .i64 frm,.int .i64 0,.int .i64 place,.int .i64 n,.int .i64 last,.int .i64 lc,.int .i64 lt,.string ⟨s.toArray⟩,.slice (g.map fun k=>⟨k,0,none⟩) ls.length c]] w Q:=by
  have HI:Hid (∀ z,Below w.heap.size w z→Calls Tryz.prog 105 #[.pointer (some ⟨B,0,none⟩)] z fun e w'=>e=.returned (.bool true)∧Below z.heap.size z w'):=fun z hz=>by
    have:=refIn v B z (h.below hz)
    rw [hl.view,hl.last] at this
    exact this
  obtain ⟨hl20,hlo⟩:=linesOk_all hls
  have HLS:Hid (∀ l ∈ ls,l.s.length≤8):=fun l hh=>Ln.ok_len (hlo l hh)
  have HV:=hid h
  have HL:=hid hl
  have HO:=hid ho
  have HOS:=hid hl.os
  have G1:=hid H1
  have G2:=hid H2
  have G3:=hid H3
  have h20:=hl.l20
  clear h hl ho hls hlo H1 H2 H3
  go_enter Tryz.func157,Tryz.ntmps157
  go_wp2_with fail
  refine (HI.out _ ((Below.refl _ _).alloc (Nat.le_refl _) _)).mono ?_
  rintro e X ⟨rfl,hb1⟩
  have HB:Hid (Below w.heap.size w X):=((Below.refl _ w).alloc (Nat.le_refl _) _).trans (hb1.mono (by simp))
  have HQ:Hid (Box w.heap.size (.int .i64 7) (.int .i64 frm) (.int .i64 0) (.int .i64 place) (.int .i64 n) (.int .i64 last) (.int .i64 lc) (.int .i64 lt) (.string ⟨s.toArray⟩) (.slice (g.map fun k=>⟨k,0,none⟩) ls.length c) X):=(hb1.block _ (by simp)).trans (heap_alloc_new w _)
  clear hb1 HI
  have HA:=hid (HV.out.below HB.out)
  have x7:X.cell? ⟨B,7,none⟩=some (.int .i64 0):=by rw [← HL.out.view];exact cell_of_heap HA.out.blk 7
  have x9:X.cell? ⟨B,9,none⟩=some (.slice (v.g.map fun k=>⟨k,0,none⟩) v.m.ls.length v.c):=cell_of_heap HA.out.blk 9
  obtain ⟨r0,r1,r2,r3,r4,r5,r6,r7,r8,r9⟩:=box_cells HQ.out
  go_wp2
  rcases Nat.lt_or_ge v.m.ls.length ls.length with h1 | h1
  · have h1':(v.m.ls.length:Int) < (ls.length:Int):=by omega
    go_still_tail 23,(by kernel_rfl)
    go_wp2_with fail
    have HAY:=hid (HA.out.below ((Below.refl _ X).drew))
    have HBY:=hid HB.out.drew
    have HQY:=hid (Box.drew HQ.out)
    clear HA HQ r0 r1 r2 r3 r4 r5 r6 r7 r8 r9 x7 x9
    have HOY:=hid (HO.out.below HBY.out)
    generalize X.drew=Y at *
    by_cases ha:v.arm=1
    · have HTF:=hid (refTakeFail v B Y HAY.out HL.out.dead ha w0 g c ls HOY.out hl20 HLS.out hbl)
      have HAR:=hid ha
      clear ha
      refine HTF.out.mono ?_
      rintro e Z ⟨rfl,hch⟩
      have HF:=hid (RChg.of HBY.out HV.out hch)
      clear hch
      go_wp2
      refine bodyPost_ret (v:=.tuple #[]) ?_ rfl (G1.out h1 HAR.out _ HF.out)
      simp [results,Tryz.results157]
    · have HTO:=hid (refTakeOk v B Y HAY.out HL.out.dead (armNext v.arm) (by unfold armNext;have:=HL.out.arm;split <;> omega) HL.out.dl w0 g c ls HOY.out hl20 HLS.out hbl (by have:=HL.out.ag;omega))
      have HAR:=hid ha
      clear ha
      refine HTO.out.mono ?_
      rintro e Z ⟨rfl,hch⟩
      have HQZ:=hid (hch.box HAY.out HQY.out)
      have HMZ:=hid ((RChg.same HV.out HBY.out).mov.trans hch)
      clear hch HQY
      have HUW:=hid (HMZ.out.trans HMZ.out.at_.unwait.mov)
      have HQW:=hid (HMZ.out.at_.unwait.box HMZ.out.at_ HQZ.out)
      have c47:Z.cell? ⟨B,47,none⟩=some (.int .i64 0):=cell_of_heap HMZ.out.at_.blk 47
      have f47:Z.frozen? ⟨B,47,none⟩=false:=frozen_of_heap HMZ.out.at_.blk 47
      have HAG:=hid (refAgree _ B _ HUW.out.at_ n (by omega) (by show ls.length≤1000;omega))
      obtain ⟨r0,r1,r2,r3,r4,r5,r6,r7,r8,r9⟩:=box_cells HQZ.out
      go_wp2_with fail
      refine HAG.out.mono ?_
      rintro e Z2 ⟨rfl,hch⟩
      have HQ2:=hid (hch.box HUW.out.at_ HQW.out)
      have HC2:=hid (HUW.out.trans hch.mov)
      clear hch r0 r1 r2 r3 r4 r5 r6 r7 r8 r9 c47 f47 HAG
      obtain ⟨r0,r1,r2,r3,r4,r5,r6,r7,r8,r9⟩:=box_cells HQ2.out
      have HHO:=hid (refHolding _ B Z2 HC2.out.at_ frm (by show v.os.length≤1000;rw [HOS.out];simp) _ rfl)
      unfold SentRet at HHO
      go_wp2_with fail
      refine HHO.out.mono ?_
      rintro e Z3 ⟨rfl,g',c',hch⟩
      have HF:=hid (HC2.out.trans hch.mov)
      clear hch
      go_wp2
      go_end0
      exact G2.out h1 HAR.out _ g' c' HF.out
  · have h1':¬ (v.m.ls.length:Int) < (ls.length:Int):=by omega
    go_still_tail 23,(by kernel_rfl)
    have c47:X.cell? ⟨B,47,none⟩=some (.int .i64 0):=cell_of_heap HA.out.blk 47
    have f47:X.frozen? ⟨B,47,none⟩=false:=frozen_of_heap HA.out.blk 47
    have HUW:=hid ((RChg.of HB.out HV.out HA.out.unwait).below ((Below.refl _ _).drew))
    have HQW:=hid (Box.drew (HA.out.unwait.box HA.out HQ.out))
    have HAG:=hid (refAgree v B _ HUW.out.at_ n (by omega) (by omega))
    go_wp2_with fail
    refine HAG.out.mono ?_
    rintro e Z2 ⟨rfl,hch⟩
    have HQ2:=hid (hch.box HUW.out.at_ HQW.out)
    have HC2:=hid (HUW.out.trans hch)
    clear hch r0 r1 r2 r3 r4 r5 r6 r7 r8 r9 c47 f47 HAG x7 x9
    obtain ⟨r0,r1,r2,r3,r4,r5,r6,r7,r8,r9⟩:=box_cells HQ2.out
    have HHO:=hid (refHolding _ B Z2 HC2.out.at_ frm (by show v.os.length≤1000;rw [HOS.out];simp) _ rfl)
    unfold SentRet at HHO
    go_wp2_with fail
    refine HHO.out.mono ?_
    rintro e Z3 ⟨rfl,g',c',hch⟩
    have HF:=hid (HC2.out.trans hch)
    clear hch
    go_wp2
    go_end0
    exact G3.out h1 _ g' c' HF.out
end
section
variable (v:RV) (B:Nat) (w:World) (h:v.At w B)
include h
theorem refHeard2 (P:World→Prop) (hl:v.Lead) (hme:¬ 0=v.me) (frm place agreed last lc lt:Int) (s:List UInt8) (a:Option Addr) (fl cap:Nat)
    (H:∀ z,Below w.heap.size w z→Calls Tryz.prog 153 #[.pointer (some ⟨B,0,none⟩),.agg #[.int .i64 2,.int .i64 frm,.int .i64 0,.int .i64 place,.int .i64 agreed,.int .i64 last,.int .i64 lc,.int .i64 lt,.string ⟨s.toArray⟩,.slice a fl cap]] z fun e y=>e=.returned (.tuple #[])∧P y) :
    Calls Tryz.prog 104 #[.pointer (some ⟨B,0,none⟩),.agg #[.int .i64 2,.int .i64 frm,.int .i64 0,.int .i64 place,.int .i64 agreed,.int .i64 last,.int .i64 lc,.int .i64 lt,.string ⟨s.toArray⟩,.slice a fl cap]] w fun e y=>e=.returned (.tuple #[])∧P y:=by
  have HI:Hid (∀ z,Below w.heap.size w z→Calls Tryz.prog 105 #[.pointer (some ⟨B,0,none⟩)] z fun e w'=>e=.returned (.bool true)∧Below z.heap.size z w'):=fun z hz=>by
    have:=refIn v B z (h.below hz)
    rw [hl.view,hl.last] at this
    exact this
  have HD:Hid (∀ z,Below w.heap.size w z→Calls Tryz.prog 106 #[.pointer (some ⟨B,0,none⟩)] z fun e w'=>e=.returned (.bool false)∧Below z.heap.size z w'):=fun z hz=>by
    have:=refLeads v B z (h.below hz) hl.kp hl.view
    rw [decide_eq_false hme] at this
    exact this
  have HV:=hid h
  have HL:=hid hl
  have G:=hid H
  have HB:=hid ((Below.refl _ w).alloc (Nat.le_refl _) (.cells #[.int .i64 2,.int .i64 frm,.int .i64 0,.int .i64 place,.int .i64 agreed,.int .i64 last,.int .i64 lc,.int .i64 lt,.string ⟨s.toArray⟩,.slice a fl cap] 30))
  have HQ:=hid (heap_alloc_new w (.cells #[.int .i64 2,.int .i64 frm,.int .i64 0,.int .i64 place,.int .i64 agreed,.int .i64 last,.int .i64 lc,.int .i64 lt,.string ⟨s.toArray⟩,.slice a fl cap] 30))
  have HA:=hid (h.below HB.out)
  clear h hl H hme
  go_enter Tryz.func104,Tryz.ntmps104
  go_wp2
  generalize w.alloc (.cells #[.int .i64 2,.int .i64 frm,.int .i64 0,.int .i64 place,.int .i64 agreed,.int .i64 last,.int .i64 lc,.int .i64 lt,.string ⟨s.toArray⟩,.slice a fl cap] 30)=X at *
  have x7:X.cell? ⟨B,7,none⟩=some (.int .i64 0):=by rw [← HL.out.view];exact cell_of_heap HA.out.blk 7
  obtain ⟨r0,r1,r2,r3,r4,r5,r6,r7,r8,r9⟩:=box_cells HQ.out
  go_still_tail 7,(by kernel_rfl)
  go_wp2
  have HBY:=hid HB.out.drew
  have HQY:=hid (Box.drew HQ.out)
  clear HB HQ HA r0 r1 r2 r3 r4 r5 r6 r7 r8 r9 x7
  generalize X.drew=Y at *
  have HAY:=hid (HV.out.below HBY.out)
  have x7:Y.cell? ⟨B,7,none⟩=some (.int .i64 0):=by rw [← HL.out.view];exact cell_of_heap HAY.out.blk 7
  obtain ⟨r0,r1,r2,r3,r4,r5,r6,r7,r8,r9⟩:=box_cells HQY.out
  go_still_tail 7,(by kernel_rfl)
  go_wp2_with fail
  have HBZ:=hid HBY.out.drew
  have HQZ:=hid (Box.drew HQY.out)
  clear HBY HQY HAY r0 r1 r2 r3 r4 r5 r6 r7 r8 r9 x7
  generalize Y.drew=Z at *
  refine (HI.out _ HBZ.out).mono ?_
  rintro e Z1 ⟨rfl,hb1⟩
  have HB1:=hid (HBZ.out.trans (hb1.mono HBZ.out.size))
  have HQ1:=hid (Box.below HQZ.out hb1)
  clear hb1 HBZ HQZ
  go_wp2_with fail
  refine (HD.out _ HB1.out).mono ?_
  rintro e Z2 ⟨rfl,hb2⟩
  have HB2:=hid (HB1.out.trans (hb2.mono HB1.out.size))
  have HQ2:=hid (Box.below HQ1.out hb2)
  clear hb2 HB1 HQ1 HI HD
  obtain ⟨r0,r1,r2,r3,r4,r5,r6,r7,r8,r9⟩:=box_cells HQ2.out
  go_wp2_with fail
  refine (G.out _ HB2.out).mono ?_
  rintro e y ⟨rfl,hp⟩
  have HP:=hid hp
  clear hp
  go_wp2
  go_end0
  exact ⟨rfl,HP.out⟩
theorem refHeard4 (P:World→Prop) (hl:v.Lead) (hme:¬ 0=v.me) (frm place agreed last lc lt:Int) (s:List UInt8) (a:Option Addr) (fl cap:Nat)
    (H:∀ z,Below w.heap.size w z→Calls Tryz.prog 153 #[.pointer (some ⟨B,0,none⟩),.agg #[.int .i64 4,.int .i64 frm,.int .i64 0,.int .i64 place,.int .i64 agreed,.int .i64 last,.int .i64 lc,.int .i64 lt,.string ⟨s.toArray⟩,.slice a fl cap]] z fun e y=>e=.returned (.tuple #[])∧P y) :
    Calls Tryz.prog 104 #[.pointer (some ⟨B,0,none⟩),.agg #[.int .i64 4,.int .i64 frm,.int .i64 0,.int .i64 place,.int .i64 agreed,.int .i64 last,.int .i64 lc,.int .i64 lt,.string ⟨s.toArray⟩,.slice a fl cap]] w fun e y=>e=.returned (.tuple #[])∧P y:=by
  have HI:Hid (∀ z,Below w.heap.size w z→Calls Tryz.prog 105 #[.pointer (some ⟨B,0,none⟩)] z fun e w'=>e=.returned (.bool true)∧Below z.heap.size z w'):=fun z hz=>by
    have:=refIn v B z (h.below hz)
    rw [hl.view,hl.last] at this
    exact this
  have HD:Hid (∀ z,Below w.heap.size w z→Calls Tryz.prog 106 #[.pointer (some ⟨B,0,none⟩)] z fun e w'=>e=.returned (.bool false)∧Below z.heap.size z w'):=fun z hz=>by
    have:=refLeads v B z (h.below hz) hl.kp hl.view
    rw [decide_eq_false hme] at this
    exact this
  have HV:=hid h
  have HL:=hid hl
  have G:=hid H
  have HB:=hid ((Below.refl _ w).alloc (Nat.le_refl _) (.cells #[.int .i64 4,.int .i64 frm,.int .i64 0,.int .i64 place,.int .i64 agreed,.int .i64 last,.int .i64 lc,.int .i64 lt,.string ⟨s.toArray⟩,.slice a fl cap] 30))
  have HQ:=hid (heap_alloc_new w (.cells #[.int .i64 4,.int .i64 frm,.int .i64 0,.int .i64 place,.int .i64 agreed,.int .i64 last,.int .i64 lc,.int .i64 lt,.string ⟨s.toArray⟩,.slice a fl cap] 30))
  have HA:=hid (h.below HB.out)
  clear h hl H hme
  go_enter Tryz.func104,Tryz.ntmps104
  go_wp2
  generalize w.alloc (.cells #[.int .i64 4,.int .i64 frm,.int .i64 0,.int .i64 place,.int .i64 agreed,.int .i64 last,.int .i64 lc,.int .i64 lt,.string ⟨s.toArray⟩,.slice a fl cap] 30)=X at *
  have x7:X.cell? ⟨B,7,none⟩=some (.int .i64 0):=by rw [← HL.out.view];exact cell_of_heap HA.out.blk 7
  obtain ⟨r0,r1,r2,r3,r4,r5,r6,r7,r8,r9⟩:=box_cells HQ.out
  go_still_tail 7,(by kernel_rfl)
  go_wp2
  have HBY:=hid HB.out.drew
  have HQY:=hid (Box.drew HQ.out)
  clear HB HQ HA r0 r1 r2 r3 r4 r5 r6 r7 r8 r9 x7
  generalize X.drew=Y at *
  have HAY:=hid (HV.out.below HBY.out)
  have x7:Y.cell? ⟨B,7,none⟩=some (.int .i64 0):=by rw [← HL.out.view];exact cell_of_heap HAY.out.blk 7
  obtain ⟨r0,r1,r2,r3,r4,r5,r6,r7,r8,r9⟩:=box_cells HQY.out
  go_still_tail 7,(by kernel_rfl)
  go_wp2_with fail
  have HBZ:=hid HBY.out.drew
  have HQZ:=hid (Box.drew HQY.out)
  clear HBY HQY HAY r0 r1 r2 r3 r4 r5 r6 r7 r8 r9 x7
  generalize Y.drew=Z at *
  refine (HI.out _ HBZ.out).mono ?_
  rintro e Z1 ⟨rfl,hb1⟩
  have HB1:=hid (HBZ.out.trans (hb1.mono HBZ.out.size))
  have HQ1:=hid (Box.below HQZ.out hb1)
  clear hb1 HBZ HQZ
  go_wp2_with fail
  refine (HD.out _ HB1.out).mono ?_
  rintro e Z2 ⟨rfl,hb2⟩
  have HB2:=hid (HB1.out.trans (hb2.mono HB1.out.size))
  have HQ2:=hid (Box.below HQ1.out hb2)
  clear hb2 HB1 HQ1 HI HD
  obtain ⟨r0,r1,r2,r3,r4,r5,r6,r7,r8,r9⟩:=box_cells HQ2.out
  go_wp2_with fail
  refine (G.out _ HB2.out).mono ?_
  rintro e y ⟨rfl,hp⟩
  have HP:=hid hp
  clear hp
  go_wp2
  go_end0
  exact ⟨rfl,HP.out⟩
end
section
variable (v:RV) (B:Nat) (w:World) (h:v.At w B)
include h
theorem refHeard3 (P:World→Prop) (hl:v.Lead) (hme:v.me=0) (frm place agreed last lc lt:Int) (s:List UInt8) (a:Option Addr) (fl cap:Nat)
    (H:∀ z,Below w.heap.size w z→Calls Tryz.prog 154 #[.pointer (some ⟨B,0,none⟩),.agg #[.int .i64 3,.int .i64 frm,.int .i64 0,.int .i64 place,.int .i64 agreed,.int .i64 last,.int .i64 lc,.int .i64 lt,.string ⟨s.toArray⟩,.slice a fl cap]] z fun e y=>e=.returned (.tuple #[])∧P y) :
    Calls Tryz.prog 104 #[.pointer (some ⟨B,0,none⟩),.agg #[.int .i64 3,.int .i64 frm,.int .i64 0,.int .i64 place,.int .i64 agreed,.int .i64 last,.int .i64 lc,.int .i64 lt,.string ⟨s.toArray⟩,.slice a fl cap]] w fun e y=>e=.returned (.tuple #[])∧P y:=by
  have HI:Hid (∀ z,Below w.heap.size w z→Calls Tryz.prog 105 #[.pointer (some ⟨B,0,none⟩)] z fun e w'=>e=.returned (.bool true)∧Below z.heap.size z w'):=fun z hz=>by
    have:=refIn v B z (h.below hz)
    rw [hl.view,hl.last] at this
    exact this
  have HD:Hid (∀ z,Below w.heap.size w z→Calls Tryz.prog 106 #[.pointer (some ⟨B,0,none⟩)] z fun e w'=>e=.returned (.bool true)∧Below z.heap.size z w'):=fun z hz=>by
    have:=refLeads v B z (h.below hz) hl.kp hl.view
    rw [decide_eq_true hme.symm] at this
    exact this
  have HV:=hid h
  have HL:=hid hl
  have G:=hid H
  have HB:=hid ((Below.refl _ w).alloc (Nat.le_refl _) (.cells #[.int .i64 3,.int .i64 frm,.int .i64 0,.int .i64 place,.int .i64 agreed,.int .i64 last,.int .i64 lc,.int .i64 lt,.string ⟨s.toArray⟩,.slice a fl cap] 30))
  have HQ:=hid (heap_alloc_new w (.cells #[.int .i64 3,.int .i64 frm,.int .i64 0,.int .i64 place,.int .i64 agreed,.int .i64 last,.int .i64 lc,.int .i64 lt,.string ⟨s.toArray⟩,.slice a fl cap] 30))
  have HA:=hid (h.below HB.out)
  clear h hl H hme
  go_enter Tryz.func104,Tryz.ntmps104
  go_wp2
  generalize w.alloc (.cells #[.int .i64 3,.int .i64 frm,.int .i64 0,.int .i64 place,.int .i64 agreed,.int .i64 last,.int .i64 lc,.int .i64 lt,.string ⟨s.toArray⟩,.slice a fl cap] 30)=X at *
  have x7:X.cell? ⟨B,7,none⟩=some (.int .i64 0):=by rw [← HL.out.view];exact cell_of_heap HA.out.blk 7
  obtain ⟨r0,r1,r2,r3,r4,r5,r6,r7,r8,r9⟩:=box_cells HQ.out
  go_still_tail 7,(by kernel_rfl)
  go_wp2
  have HBY:=hid HB.out.drew
  have HQY:=hid (Box.drew HQ.out)
  clear HB HQ HA r0 r1 r2 r3 r4 r5 r6 r7 r8 r9 x7
  generalize X.drew=Y at *
  have HAY:=hid (HV.out.below HBY.out)
  have x7:Y.cell? ⟨B,7,none⟩=some (.int .i64 0):=by rw [← HL.out.view];exact cell_of_heap HAY.out.blk 7
  obtain ⟨r0,r1,r2,r3,r4,r5,r6,r7,r8,r9⟩:=box_cells HQY.out
  go_still_tail 7,(by kernel_rfl)
  go_wp2_with fail
  have HBZ:=hid HBY.out.drew
  have HQZ:=hid (Box.drew HQY.out)
  clear HBY HQY HAY r0 r1 r2 r3 r4 r5 r6 r7 r8 r9 x7
  generalize Y.drew=Z at *
  refine (HI.out _ HBZ.out).mono ?_
  rintro e Z1 ⟨rfl,hb1⟩
  have HB1:=hid (HBZ.out.trans (hb1.mono HBZ.out.size))
  have HQ1:=hid (Box.below HQZ.out hb1)
  clear hb1 HBZ HQZ
  go_wp2_with fail
  refine (HD.out _ HB1.out).mono ?_
  rintro e Z2 ⟨rfl,hb2⟩
  have HB2:=hid (HB1.out.trans (hb2.mono HB1.out.size))
  have HQ2:=hid (Box.below HQ1.out hb2)
  clear hb2 HB1 HQ1 HI HD
  obtain ⟨r0,r1,r2,r3,r4,r5,r6,r7,r8,r9⟩:=box_cells HQ2.out
  go_wp2_with fail
  refine (G.out _ HB2.out).mono ?_
  rintro e y ⟨rfl,hp⟩
  have HP:=hid hp
  clear hp
  go_wp2
  go_end0
  exact ⟨rfl,HP.out⟩
theorem refHeard7 (P:World→Prop) (hl:v.Lead) (hme:¬ 0=v.me) (frm place agreed last lc lt:Int) (s:List UInt8) (a:Option Addr) (fl cap:Nat)
    (H:∀ z,Below w.heap.size w z→Calls Tryz.prog 157 #[.pointer (some ⟨B,0,none⟩),.agg #[.int .i64 7,.int .i64 frm,.int .i64 0,.int .i64 place,.int .i64 agreed,.int .i64 last,.int .i64 lc,.int .i64 lt,.string ⟨s.toArray⟩,.slice a fl cap]] z fun e y=>e=.returned (.tuple #[])∧P y) :
    Calls Tryz.prog 104 #[.pointer (some ⟨B,0,none⟩),.agg #[.int .i64 7,.int .i64 frm,.int .i64 0,.int .i64 place,.int .i64 agreed,.int .i64 last,.int .i64 lc,.int .i64 lt,.string ⟨s.toArray⟩,.slice a fl cap]] w fun e y=>e=.returned (.tuple #[])∧P y:=by
  have HI:Hid (∀ z,Below w.heap.size w z→Calls Tryz.prog 105 #[.pointer (some ⟨B,0,none⟩)] z fun e w'=>e=.returned (.bool true)∧Below z.heap.size z w'):=fun z hz=>by
    have:=refIn v B z (h.below hz)
    rw [hl.view,hl.last] at this
    exact this
  have HD:Hid (∀ z,Below w.heap.size w z→Calls Tryz.prog 106 #[.pointer (some ⟨B,0,none⟩)] z fun e w'=>e=.returned (.bool false)∧Below z.heap.size z w'):=fun z hz=>by
    have:=refLeads v B z (h.below hz) hl.kp hl.view
    rw [decide_eq_false hme] at this
    exact this
  have HV:=hid h
  have HL:=hid hl
  have G:=hid H
  have HB:=hid ((Below.refl _ w).alloc (Nat.le_refl _) (.cells #[.int .i64 7,.int .i64 frm,.int .i64 0,.int .i64 place,.int .i64 agreed,.int .i64 last,.int .i64 lc,.int .i64 lt,.string ⟨s.toArray⟩,.slice a fl cap] 30))
  have HQ:=hid (heap_alloc_new w (.cells #[.int .i64 7,.int .i64 frm,.int .i64 0,.int .i64 place,.int .i64 agreed,.int .i64 last,.int .i64 lc,.int .i64 lt,.string ⟨s.toArray⟩,.slice a fl cap] 30))
  have HA:=hid (h.below HB.out)
  clear h hl H hme
  go_enter Tryz.func104,Tryz.ntmps104
  go_wp2
  generalize w.alloc (.cells #[.int .i64 7,.int .i64 frm,.int .i64 0,.int .i64 place,.int .i64 agreed,.int .i64 last,.int .i64 lc,.int .i64 lt,.string ⟨s.toArray⟩,.slice a fl cap] 30)=X at *
  have x7:X.cell? ⟨B,7,none⟩=some (.int .i64 0):=by rw [← HL.out.view];exact cell_of_heap HA.out.blk 7
  obtain ⟨r0,r1,r2,r3,r4,r5,r6,r7,r8,r9⟩:=box_cells HQ.out
  go_still_tail 7,(by kernel_rfl)
  go_wp2
  have HBY:=hid HB.out.drew
  have HQY:=hid (Box.drew HQ.out)
  clear HB HQ HA r0 r1 r2 r3 r4 r5 r6 r7 r8 r9 x7
  generalize X.drew=Y at *
  have HAY:=hid (HV.out.below HBY.out)
  have x7:Y.cell? ⟨B,7,none⟩=some (.int .i64 0):=by rw [← HL.out.view];exact cell_of_heap HAY.out.blk 7
  obtain ⟨r0,r1,r2,r3,r4,r5,r6,r7,r8,r9⟩:=box_cells HQY.out
  go_still_tail 7,(by kernel_rfl)
  go_wp2_with fail
  have HBZ:=hid HBY.out.drew
  have HQZ:=hid (Box.drew HQY.out)
  clear HBY HQY HAY r0 r1 r2 r3 r4 r5 r6 r7 r8 r9 x7
  generalize Y.drew=Z at *
  refine (HI.out _ HBZ.out).mono ?_
  rintro e Z1 ⟨rfl,hb1⟩
  have HB1:=hid (HBZ.out.trans (hb1.mono HBZ.out.size))
  have HQ1:=hid (Box.below HQZ.out hb1)
  clear hb1 HBZ HQZ
  go_wp2_with fail
  refine (HD.out _ HB1.out).mono ?_
  rintro e Z2 ⟨rfl,hb2⟩
  have HB2:=hid (HB1.out.trans (hb2.mono HB1.out.size))
  have HQ2:=hid (Box.below HQ1.out hb2)
  clear hb2 HB1 HQ1 HI HD
  obtain ⟨r0,r1,r2,r3,r4,r5,r6,r7,r8,r9⟩:=box_cells HQ2.out
  go_wp2_with fail
  refine (G.out _ HB2.out).mono ?_
  rintro e y ⟨rfl,hp⟩
  have HP:=hid hp
  clear hp
  go_wp2
  go_end0
  exact ⟨rfl,HP.out⟩
end
end
end Go.Proofs.YtolififimldmlaaGreat
