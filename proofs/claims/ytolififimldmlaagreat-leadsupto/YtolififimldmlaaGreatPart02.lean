import Derived.Test.YtolififimldmlaaGreatPart01
set_option linter.unusedVariables false
set_option linter.unusedSimpArgs false
set_option maxRecDepth 100000
set_option maxHeartbeats 16000000
namespace Go.Proofs.YtolififimldmlaaGreat
section
open Go.RowKit
attribute [local go_sem ↓] Go.wp_at_zero Go.wp_at_succ
theorem checked_at (s:ByteArray) (l:List UInt8) (w:World) (hn:l.length≤100000000) (hs:s=⟨l.toArray⟩) :
    Calls Tryz.prog 96 #[.string s] w fun e w'=>e=.returned (.string ⟨(withChk l).toArray⟩)∧Below w.heap.size w w':=by
  subst hs;exact checked_any l w hn
theorem bytes_ext {a:ByteArray} {l:List UInt8} (h:a.data.toList=l):a=⟨l.toArray⟩:=by subst h;rfl
theorem no_both (k:Int):¬ (hasB k 49=true∧hasB k 110=true):=by
  unfold hasB memB fieldStr
  repeat' split
  all_goals decide
theorem refPack_any (f:Fr) (a:Option Addr) (cap:Nat) (w:World) (hl:LinesAt w a f.lines) (hn:f.lines.length≤100000000) (hcap:f.lines.length≤cap) :
    Calls Tryz.prog 50 #[f.val a cap] w fun e w'=>e=.returned (.tuple #[.string ⟨(packS f).toArray⟩,.int .i64 (packE f)])∧Below w.heap.size w w':=by
  have HL:=hid hl
  have HIF:=hid (fun w1 (h:Below w.heap.size w w1)=>isFrame_any f a cap w1 (HL.out.below h) hn hcap)
  clear hl
  cases hok:f.ok
  · have HE:Hid (packS f=[]∧packE f=3):=by show _∧_;simp [packS,packE,hok]
    have HO:=hid hok
    clear hok
    unfold Fr.val sla at HIF ⊢
    go_enter Tryz.func50,Tryz.ntmps50
    go_wp2_with fail
    refine (HIF.out _ ((Below.refl _ _).alloc (Nat.le_refl _) _)).mono ?_
    rintro e w1 ⟨rfl,hb1⟩
    rw [HO.out]
    go_wp2
    go_ret2
    exact ⟨by rw [HE.out.1,HE.out.2];rfl,((Below.refl _ _).alloc (Nat.le_refl _) _).trans (hb1.mono (by simp))⟩
  · have HE:Hid (packS f=withChk f.body∧packE f=0):=by show _∧_;simp [packS,packE,hok,Fr.bytes]
    have HO:=hid hok
    have HBL:=Fr.body_len hok
    obtain ⟨p1,p2,p3,p4,p5,p6⟩:=Fr.ok_parts hok
    have P3:=hid p3
    have P5:=hid p5
    have HBD:Hid (f.body=f.head++(if hasB f.kind 49 then lineBytes f.line else [])++(if hasB f.kind 110 then linesBytes f.lines else [])):=rfl
    clear hok p3 p4 p5 p6
    have hconv:=conv6
    obtain ⟨kind,frm,view,place,agreed,last,⟨c,t,s⟩,ls⟩:=f
    unfold Fr.val sla at HIF ⊢
    dsimp only at *
    go_enter Tryz.func50,Tryz.ntmps50
    go_wp2_with fail
    refine (HIF.out _ ((Below.refl _ _).alloc (Nat.le_refl _) _)).mono ?_
    rintro e w1 ⟨rfl,hb1⟩
    rw [HO.out]
    have hz1:w.heap.size < w1.heap.size:=by have:=hb1.size;simp at this;omega
    have HW1:Hid (Below w.heap.size w w1):=((Below.refl _ w).alloc (Nat.le_refl _) _).trans (hb1.mono (by simp))
    obtain ⟨q1,q2⟩:=bcell hb1
    clear hb1 q2
    go_wp2_with fail
    refine (fields_any kind _ p1 p2).mono ?_
    rintro e w2 ⟨rfl,hb2⟩
    obtain ⟨r1,r2⟩:=bcell hb2
    simp only [World.size_alloc] at r1
    have hz2:w.heap.size < w2.heap.size:=by have:=hb2.size;simp at this;omega
    have HW2:Hid (Below w.heap.size w w2):=(HW1.out.alloc (by have:=HW1.out.size;omega) _).trans (hb2.mono (by have:=HW1.out.size;simp;omega))
    clear hb2 r2
    go_wp2_with fail
    refine (has_k kind 49 _ rfl _).mono ?_
    rintro e _ ⟨rfl,rfl⟩
    go_wp2_with fail
    refine (has_k kind 110 _ rfl _).mono ?_
    rintro e _ ⟨rfl,rfl⟩
    have HK:Hid (UInt8.ofNat kind.toNat=byteOf kind):=by
      show _=_
      unfold byteOf;rw [Int.emod_eq_of_lt (by omega) (by omega)]
    cases h49:hasB kind 49
    · cases h110:hasB kind 110
      · rw [h49,h110] at HBD
        clear h49 h110
        go_wp2_with fail
        refine (checked_at _ _ _ (Nat.le_trans HBL (by omega)) ?_).mono ?_
        · rw [HBD.out,HK.out];rfl
        rintro e w3 ⟨rfl,hb3⟩
        go_wp2
        go_ret2
        exact ⟨by rw [HE.out.1,HE.out.2];rfl,HW2.out.trans (hb3.mono HW2.out.size)⟩
      · have hls:=P5.out h110
        rw [h49,h110] at HBD
        clear h49 h110
        obtain ⟨n20,hlo⟩:=linesOk_all hls
        have hmb:=manyBytes_len ls hlo
        have HLO:=hid hlo
        have hlb:(linesBytes ls).length≤221:=by unfold linesBytes;rw [List.length_cons];omega
        clear hlo hls hmb
        go_wp2_with fail
        refine (linesText_any a cap ls _ (HL.out.below HW2.out) hn (fun l hl=>Ln.ok_len (HLO.out l hl))).mono ?_
        rintro e w3 ⟨rfl,hb3⟩
        have HW3:=hid (HW2.out.trans (hb3.mono HW2.out.size))
        clear hb3
        go_wp2_with fail
        refine (checked_at _ _ _ (Nat.le_trans HBL (by omega)) ?_).mono ?_
        · rw [HBD.out,HK.out];exact bytes_ext (by rw [ByteArray.data_append];simp [Fr.head,byteOf])
        rintro e w4 ⟨rfl,hb4⟩
        go_wp2
        go_ret2
        exact ⟨by rw [HE.out.1,HE.out.2];rfl,HW3.out.trans (hb4.mono HW3.out.size)⟩
    · have hlk:=Ln.ok_len (P3.out h49)
      cases h110:hasB kind 110
      · rw [h49,h110] at HBD
        clear h49 h110
        dsimp only at hlk
        have hlb:(lineBytes ⟨c,t,s⟩).length≤11:=by rw [lineBytes_len];dsimp only;omega
        go_wp2_with fail
        refine (lineText_any ⟨c,t,s⟩ _ (by dsimp only;omega)).mono ?_
        rintro e w3 ⟨rfl,hb3⟩
        have HW3:=hid (HW2.out.trans (hb3.mono HW2.out.size))
        clear hb3
        go_wp2_with fail
        refine (checked_at _ _ _ (Nat.le_trans HBL (by omega)) ?_).mono ?_
        · rw [HBD.out,HK.out];exact bytes_ext (by rw [ByteArray.data_append];simp [Fr.head,byteOf])
        rintro e w4 ⟨rfl,hb4⟩
        go_wp2
        go_ret2
        exact ⟨by rw [HE.out.1,HE.out.2];rfl,HW3.out.trans (hb4.mono HW3.out.size)⟩
      · exact absurd ⟨h49,h110⟩ (no_both kind)
theorem tl_no (b:List UInt8) (h:takeLine b=none):tlLine b=Ln.zero∧tlRest b=[]∧tlOk b=false:=by simp [tlLine,tlRest,tlOk,h]
theorem tl_yes (b:List UInt8) (h3:3≤b.length) (h:3+(b.getD 2 0).toNat≤b.length) :
    tlLine b=⟨(b.getD 0 0).toNat,(b.getD 1 0).toNat,(b.drop 3).take (b.getD 2 0).toNat⟩∧tlRest b=b.drop (3+(b.getD 2 0).toNat)∧tlOk b=true:=by
  have:takeLine b=some (⟨(b.getD 0 0).toNat,(b.getD 1 0).toNat,(b.drop 3).take (b.getD 2 0).toNat⟩,b.drop (3+(b.getD 2 0).toNat)):=by
    unfold takeLine;rw [if_neg (by omega),if_neg (by omega)]
  simp [tlLine,tlRest,tlOk,this]
theorem extr (b:List UInt8) (i j:Nat):(⟨b.toArray⟩:ByteArray).extract i j=⟨((b.drop i).take (j - i)).toArray⟩:=by
  apply ByteArray.ext
  rw [ByteArray.data_extract]
  simp [List.extract]
theorem lineAt_any (b:List UInt8) (w:World) (hn:b.length≤100000000) :
    Calls Tryz.prog 145 #[.string ⟨b.toArray⟩] w fun e w'=>e=.returned (.tuple #[.agg #[.int .i64 (tlLine b).c,.int .i64 (tlLine b).t,.string ⟨(tlLine b).s.toArray⟩],.string ⟨(tlRest b).toArray⟩,.bool (tlOk b)])∧Below w.heap.size w w':=by
  rcases Nat.lt_or_ge b.length 3 with h3 | h3
  · obtain ⟨e1,e2,e3⟩:=tl_no b (by unfold takeLine;rw [if_pos h3])
    rw [e1,e2,e3]
    clear e1 e2 e3
    go_enter Tryz.func145,Tryz.ntmps145
    go_wp2
    exact bodyPost_ret (v:=.tuple #[.agg #[.int .i64 0,.int .i64 0,.string ⟨#[]⟩],.string ⟨#[]⟩,.bool false]) (by simp [results,Tryz.results145,go_sem]) rfl ⟨rfl,(Below.refl _ _).alloc (Nat.le_refl _) _⟩
  · have i0:∀ h,(⟨b.toArray⟩:ByteArray)[0]'h=b.getD 0 0:=fun h=>by rw [getD_at b 0 0 (by omega)];rfl
    have i1:∀ h,(⟨b.toArray⟩:ByteArray)[1]'h=b.getD 1 0:=fun h=>by rw [getD_at b 1 0 (by omega)];rfl
    have i2:∀ h,(⟨b.toArray⟩:ByteArray)[2]'h=b.getD 2 0:=fun h=>by rw [getD_at b 2 0 (by omega)];rfl
    have HY:=hid (tl_yes b h3)
    have HN:Hid (b.length < 3+(b.getD 2 0).toNat→takeLine b=none):=fun h=>by unfold takeLine;rw [if_neg (by omega),if_pos h]
    generalize b.getD 0 0=x at i0 HY
    generalize b.getD 1 0=y at i1 HY
    generalize b.getD 2 0=z at i2 HY HN
    have hx:x.toNat < 256:=x.toNat_lt
    have hy:y.toNat < 256:=y.toNat_lt
    have hz:z.toNat < 256:=z.toNat_lt
    rcases Nat.lt_or_ge b.length (3+z.toNat) with hb | hb
    · obtain ⟨e1,e2,e3⟩:=tl_no b (HN.out hb)
      rw [e1,e2,e3]
      clear e1 e2 e3
      go_enter Tryz.func145,Tryz.ntmps145
      go_wp2
      exact bodyPost_ret (v:=.tuple #[.agg #[.int .i64 0,.int .i64 0,.string ⟨#[]⟩],.string ⟨#[]⟩,.bool false]) (by simp [results,Tryz.results145,go_sem]) rfl ⟨rfl,(Below.refl _ _).alloc (Nat.le_refl _) _⟩
    · obtain ⟨e1,e2,e3⟩:=HY.out hb
      rw [e1,e2,e3]
      clear e1 e2 e3
      go_enter Tryz.func145,Tryz.ntmps145
      go_wp2
      go_region
      all_goals go_wp2
      refine bodyPost_ret (v:=.tuple #[.agg #[.int .i64 x.toNat,.int .i64 y.toNat,.string ((⟨b.toArray⟩:ByteArray).extract 3 (3+z.toNat))],.string ((⟨b.toArray⟩:ByteArray).extract (3+z.toNat) b.length),.bool true]) (by simp [results,Tryz.results145,go_sem]) rfl ⟨?_,((Below.refl _ _).alloc (Nat.le_refl _) _).drew⟩
      rw [extr,extr,show 3+z.toNat - 3=z.toNat from by omega,List.take_of_length_le (l:=b.drop (3+z.toNat)) (by rw [List.length_drop];omega)]
def sl (b:Option Nat) (n c:Nat):Value:=.slice (b.map fun g=>⟨g,0,none⟩) n c
structure HG where
  p:Nat
  b:Option Nat
  bn:Nat
  bc:Nat
  l:Option Nat
  ln:Nat
  lc:Nat
  o:Option Nat
  on:Nat
  oc:Nat
  q:Nat→Nat
  m:Nat
structure HoldIs (w:World) (h:HG):Prop where
  c0:w.cell? ⟨h.p,0,none⟩=some (sl h.b h.bn h.bc)
  c1:w.cell? ⟨h.p,1,none⟩=some (sl h.l h.ln h.lc)
  c2:w.cell? ⟨h.p,2,none⟩=some (sl h.o h.on h.oc)
  c3:w.cell? ⟨h.p,3,none⟩=some (.int .i64 h.m)
  bs:∀ j,j < h.bn→∃ g,h.b=some g∧w.cell? ⟨g,j,none⟩=some (.int .u8 (sg h.m j))
  ls:∀ j,j < h.ln→∃ g,h.l=some g∧w.cell? ⟨g,j * 3,none⟩=some (.int .i64 77)∧w.cell? ⟨g,j * 3+1,none⟩=some (.int .i64 h.m)∧w.cell? ⟨g,j * 3+2,none⟩=some (.string ⟨#[]⟩)
  os:∀ j,j < h.on→∃ g c,h.o=some g∧w.cell? ⟨g,j * 3,none⟩=some (.bool false)∧w.cell? ⟨g,j * 3+1,none⟩=some (.int .i64 h.m)∧w.cell? ⟨g,j * 3+2,none⟩=some (.slice (some ⟨h.q j,0,none⟩) 1 c) ∧
    w.cell? ⟨h.q j,0,none⟩=some (.int .u8 ((h.m:Int) % 256))
theorem marked_any (h:HG) (w:World) (hh:HoldIs w h) (hm:h.m≤100000000) (h1:h.bn≤100000000) (h2:h.ln≤100000000) (h3:h.on≤100000000) :
    Calls Tryz.prog 67 #[.pointer (some ⟨h.p,0,none⟩)] w fun e w'=>e=.returned (.bool true)∧Below w.heap.size w w':=by
  obtain ⟨p,b,bn,bc,l,ln,lc,o,on,oc,qf,m⟩:=h
  obtain ⟨c0,c1,c2,c3,bs,ls,os⟩:=hh
  dsimp only at *
  have hbs:Hid (∀ j,j < bn→∃ g,b=some g∧w.cell? ⟨g,j,none⟩=some (.int .u8 (sg m j))):=bs
  have hls:Hid (∀ j,j < ln→∃ g,l=some g∧w.cell? ⟨g,j * 3,none⟩=some (.int .i64 77)∧w.cell? ⟨g,j * 3+1,none⟩=some (.int .i64 m)∧w.cell? ⟨g,j * 3+2,none⟩=some (.string ⟨#[]⟩)):=ls
  have hos:Hid (∀ j,j < on→∃ g c,o=some g∧w.cell? ⟨g,j * 3,none⟩=some (.bool false)∧w.cell? ⟨g,j * 3+1,none⟩=some (.int .i64 m)∧w.cell? ⟨g,j * 3+2,none⟩=some (.slice (some ⟨qf j,0,none⟩) 1 c) ∧
    w.cell? ⟨qf j,0,none⟩=some (.int .u8 ((m:Int) % 256))):=os
  clear bs ls os
  unfold sl at c0 c1 c2
  go_enter Tryz.func67,Tryz.ntmps67
  go_wp2
  go_loopw [3,4] (fun ok i wr=>∃ k:Nat,k≤bn∧i=.int .i64 k∧ok=.bool true∧Below w.heap.size w wr) (fun _ i _=>bn - (intOf i).toNat)
  case atStart=>exact ⟨0,Nat.zero_le _,rfl,rfl,Below.refl _ _⟩
  case round =>
    obtain ⟨k,hk,rfl,rfl,hb⟩:=hrel
    by_cases hlt:k < bn
    · obtain ⟨g,rfl,hg⟩:=hbs.out k hlt
      have d0:wr.cell? ⟨p,0,none⟩=_:=(hb.cell (World.block_lt_of_cell? w _ c0)).trans c0
      have d3:wr.cell? ⟨p,3,none⟩=_:=(hb.cell (World.block_lt_of_cell? w _ c3)).trans c3
      have dg:wr.cell? ⟨g,k,none⟩=_:=(hb.cell (World.block_lt_of_cell? w _ hg)).trans hg
      go_wp2
      go_quiet ((go_at_call 112;exact Calls.quiet_of_same (sign_any m k _ hm (by omega))))
      go_wp2
      go_roundw
      case rel=>exact ⟨k+1,by omega,by go_num,by simp,below_drewN hb _⟩
      case measure=>simp [intOf];omega
    · have d0:wr.cell? ⟨p,0,none⟩=_:=(hb.cell (World.block_lt_of_cell? w _ c0)).trans c0
      go_wp2
      go_loopw [3,5] (fun ok i wq=>∃ k2:Nat,k2≤ln∧i=.int .i64 k2∧ok=.bool true∧Below w.heap.size w wq) (fun _ i _=>ln - (intOf i).toNat)
      case atStart=>exact ⟨0,Nat.zero_le _,rfl,rfl,hb⟩
      case round =>
        clear hb
        obtain ⟨k2,hk2,rfl,rfl,hb⟩:=hrel
        by_cases hlt2:k2 < ln
        · obtain ⟨g,rfl,hg0,hg1,hg2⟩:=hls.out k2 hlt2
          have d1:wr.cell? ⟨p,1,none⟩=_:=(hb.cell (World.block_lt_of_cell? w _ c1)).trans c1
          have d3:wr.cell? ⟨p,3,none⟩=_:=(hb.cell (World.block_lt_of_cell? w _ c3)).trans c3
          have dg0:wr.cell? ⟨g,k2 * 3,none⟩=_:=(hb.cell (World.block_lt_of_cell? w _ hg0)).trans hg0
          have dg1:wr.cell? ⟨g,k2 * 3+1,none⟩=_:=(hb.cell (World.block_lt_of_cell? w _ hg1)).trans hg1
          have dg2:wr.cell? ⟨g,k2 * 3+2,none⟩=_:=(hb.cell (World.block_lt_of_cell? w _ hg2)).trans hg2
          go_wp2
          go_quiet (fail)
          go_wp2
          go_roundw
          case rel=>exact ⟨k2+1,by omega,by go_num,by simp,below_drewN hb _⟩
          case measure=>simp [intOf];omega
        · have d1:wr.cell? ⟨p,1,none⟩=_:=(hb.cell (World.block_lt_of_cell? w _ c1)).trans c1
          go_wp2
          go_loopw [3,6] (fun ok i wq=>∃ k3:Nat,k3≤on∧i=.int .i64 k3∧ok=.bool true∧Below w.heap.size w wq) (fun _ i _=>on - (intOf i).toNat)
          case atStart=>exact ⟨0,Nat.zero_le _,rfl,rfl,hb⟩
          case round =>
            clear hb
            obtain ⟨k3,hk3,rfl,rfl,hb⟩:=hrel
            by_cases hlt3:k3 < on
            · obtain ⟨g,c,rfl,hg0,hg1,hg2,hg3⟩:=hos.out k3 hlt3
              generalize qf k3=q at hg2 hg3
              have d2:wr.cell? ⟨p,2,none⟩=_:=(hb.cell (World.block_lt_of_cell? w _ c2)).trans c2
              have d3:wr.cell? ⟨p,3,none⟩=_:=(hb.cell (World.block_lt_of_cell? w _ c3)).trans c3
              have dg0:wr.cell? ⟨g,k3 * 3,none⟩=_:=(hb.cell (World.block_lt_of_cell? w _ hg0)).trans hg0
              have dg1:wr.cell? ⟨g,k3 * 3+1,none⟩=_:=(hb.cell (World.block_lt_of_cell? w _ hg1)).trans hg1
              have dg2:wr.cell? ⟨g,k3 * 3+2,none⟩=_:=(hb.cell (World.block_lt_of_cell? w _ hg2)).trans hg2
              have dq:wr.cell? ⟨q,0,none⟩=_:=(hb.cell (World.block_lt_of_cell? w _ hg3)).trans hg3
              have e3:p < wr.heap.size:=World.block_lt_of_cell? wr _ d3
              have eq:q < wr.heap.size:=World.block_lt_of_cell? wr _ dq
              have hconv:=fun (w':World) (q c:Nat) (x:Int) (h:w'.cell? ⟨q,0,none⟩=some (.int .u8 x))=>conv1 q c x w' h
              go_wp2
              go_region_held (fun w'=>w'.cell? ⟨p,3,none⟩=some (.int .i64 m)∧w'.cell? ⟨q,0,none⟩=some (.int .u8 ((m:Int) % 256))∧w'.cell? ⟨wr.heap.size,0,none⟩=some (.bool false)∧w'.cell? ⟨wr.heap.size,1,none⟩=some (.int .i64 m)∧w'.cell? ⟨wr.heap.size,2,none⟩=some (.slice (some ⟨q,0,none⟩) 1 c)) (go_keep) (fail)
              go_wp2
              go_roundw
              case rel=>exact ⟨k3+1,by omega,by go_num,by rw [IntKind.wrap_u8,beq_self_eq_true],((hb.alloc hb.size _).alloc (by simp;have:=hb.size;omega) _).drew⟩
              case measure=>simp [intOf];omega
            · have d2:wr.cell? ⟨p,2,none⟩=_:=(hb.cell (World.block_lt_of_cell? w _ c2)).trans c2
              go_wp2
              go_ret
              exact ⟨rfl,hb⟩
theorem HoldIs.below {w w':World} {h:HG} (hh:HoldIs w h) (hb:Below w.heap.size w w'):HoldIs w' h:=by
  have hc:∀ {a:Addr} {v:Value},w.cell? a=some v→w'.cell? a=some v:=fun {a v} e=>(hb.cell (World.block_lt_of_cell? w _ e)).trans e
  refine ⟨hc hh.c0,hc hh.c1,hc hh.c2,hc hh.c3,fun j hj=>?_,fun j hj=>?_,fun j hj=>?_⟩
  · obtain ⟨g,e,a⟩:=hh.bs j hj;exact ⟨g,e,hc a⟩
  · obtain ⟨g,e,a,b,c⟩:=hh.ls j hj;exact ⟨g,e,hc a,hc b,hc c⟩
  · obtain ⟨g,cc,e,a,b,c,d⟩:=hh.os j hj;exact ⟨g,cc,e,hc a,hc b,hc c,hc d⟩
theorem looks_any (W n cap:Nat) (gh:Option Nat) (H:Nat→HG) (w:World) (hn:n≤100000000)
    (hc:w.cell? ⟨W,1,none⟩=some (sl gh n cap))
    (hp:∀ j,j < n→∃ g,gh=some g∧w.cell? ⟨g,j,none⟩=some (.pointer (some ⟨(H j).p,0,none⟩)))
    (hh:∀ j,j < n→HoldIs w (H j)) (hs:∀ j,j < n→(H j).m≤100000000∧(H j).bn≤100000000∧(H j).ln≤100000000∧(H j).on≤100000000) :
    Calls Tryz.prog 31 #[.pointer (some ⟨W,0,none⟩)] w fun e w'=>e=.returned (.bool true)∧Below w.heap.size w w':=by
  have hp':Hid (∀ j,j < n→∃ g,gh=some g∧w.cell? ⟨g,j,none⟩=some (.pointer (some ⟨(H j).p,0,none⟩))):=hp
  have hh':Hid (∀ j,j < n→HoldIs w (H j)):=hh
  have hs':Hid (∀ j,j < n→(H j).m≤100000000∧(H j).bn≤100000000∧(H j).ln≤100000000∧(H j).on≤100000000):=hs
  clear hp hh hs
  unfold sl at hc
  go_enter Tryz.func31,Tryz.ntmps31
  go_wp2
  go_loopw [3] (fun i wr=>∃ k:Nat,k≤n∧i=.int .i64 k∧Below w.heap.size w wr) (fun i _=>n - (intOf i).toNat)
  case atStart=>exact ⟨0,Nat.zero_le _,rfl,Below.refl _ _⟩
  case round =>
    obtain ⟨k,hk,rfl,hb⟩:=hrel
    have d:wr.cell? ⟨W,1,none⟩=_:=(hb.cell (World.block_lt_of_cell? w _ hc)).trans hc
    by_cases hlt:k < n
    · obtain ⟨g,rfl,hg⟩:=hp'.out k hlt
      have dg:wr.cell? ⟨g,k,none⟩=_:=(hb.cell (World.block_lt_of_cell? w _ hg)).trans hg
      obtain ⟨s1,s2,s3,s4⟩:=hs'.out k hlt
      have hk':Hid (HoldIs wr (H k)):=(hh'.out k hlt).below (by exact ⟨hb.os,hb.tape,hb.output,hb.size,hb.block⟩)
      go_wp2_with fail
      refine (marked_any (H k) _ hk'.out s1 s2 s3 s4).mono ?_
      rintro e w1 ⟨rfl,hb1⟩
      go_wp2
      go_roundw
      case rel=>exact ⟨k+1,by omega,by go_num,hb.trans (hb1.mono hb.size)⟩
      case measure=>simp [intOf];omega
    · go_wp2
      go_ret
      exact ⟨rfl,hb⟩
end
section
open Go.RowKit
structure Touch (T:Nat→Prop) (w w':World):Prop where
  os:w'.os=w.os
  tape:w'.tape=w.tape
  output:w'.output=w.output
  size:w.heap.size≤w'.heap.size
  block:∀ k,k < w.heap.size→¬ T k→w'.heap[k]?=w.heap[k]?
theorem Touch.refl (T:Nat→Prop) (w:World):Touch T w w:=⟨rfl,rfl,rfl,Nat.le_refl _,fun _ _ _=>rfl⟩
theorem Touch.trans {T T':Nat→Prop} {a b c:World} (h:Touch T a b) (k:Touch T' b c) (ht:∀ i,i < a.heap.size→T' i→T i):Touch T a c :=
  ⟨k.os.trans h.os,k.tape.trans h.tape,k.output.trans h.output,Nat.le_trans h.size k.size,
    fun i hi hn=>(k.block i (Nat.lt_of_lt_of_le hi h.size) (fun e=>hn (ht i hi e))).trans (h.block i hi hn)⟩
theorem Touch.mono {T T':Nat→Prop} {a b:World} (h:Touch T a b) (ht:∀ i,i < a.heap.size→T i→T' i):Touch T' a b :=
  ⟨h.os,h.tape,h.output,h.size,fun i hi hn=>h.block i hi (fun e=>hn (ht i hi e))⟩
theorem Touch.drew {T:Nat→Prop} {a w:World} (h:Touch T a w):Touch T a w.drew:=⟨h.os,h.tape,h.output,h.size,h.block⟩
theorem Touch.alloc {T:Nat→Prop} {a w:World} (h:Touch T a w) (o:Obj):Touch T a (w.alloc o) :=
  h.trans (T':=T) ⟨rfl,rfl,rfl,by simp,fun k hk _=>Below.heap_alloc _ _ _ (by omega)⟩ (fun _ _ e=>e)
theorem Touch.setCell {T:Nat→Prop} {a w:World} (h:Touch T a w) {p:Addr} (hp:p.block < a.heap.size→T p.block) (u:Value):Touch T a (w.setCell p u) :=
  h.trans (T':=fun k=>k=p.block) ⟨rfl,rfl,rfl,by simp [World.setCell],fun k hk hn=>Below.heap_setCell _ _ _ _ hn⟩ (fun i hi e=>by subst e;exact hp hi)
theorem Touch.below {T:Nat→Prop} {w w':World} (h:Touch T w w') {B:Nat} (hB:B≤w.heap.size) (ht:∀ k,k < w.heap.size→T k→B≤k):Below B w w' :=
  ⟨h.os,h.tape,h.output,h.size,fun k hk=>h.block k (by omega) (fun e=>by have:=ht k (by omega) e;omega)⟩
theorem Touch.of_belowAll {w w':World} (h:Below w.heap.size w w') (T:Nat→Prop):Touch T w w':=⟨h.os,h.tape,h.output,h.size,fun k hk _=>h.block k hk⟩
theorem Touch.heapAt {T:Nat→Prop} {w w':World} (h:Touch T w w') {k:Nat} {o:Obj} (e:w.heap[k]?=some o) (hn:¬ T k):w'.heap[k]?=some o:=by
  rw [h.block k (by rcases Nat.lt_or_ge k w.heap.size with h | h;exact h;rw [Array.getElem?_eq_none h] at e;cases e) hn];exact e
theorem Touch.cell {T:Nat→Prop} {w w':World} (h:Touch T w w') {a:Addr} {v:Value} (e:w.cell? a=some v) (hn:¬ T a.block):w'.cell? a=some v :=
  (World.cell?_of_block (h.block a.block (World.block_lt_of_cell? w a e) hn)).trans e
theorem heap_lt {w:World} {k:Nat} {o:Obj} (e:w.heap[k]?=some o):k < w.heap.size:=by
  rcases Nat.lt_or_ge k w.heap.size with h | h
  · exact h
  · rw [Array.getElem?_eq_none h] at e;cases e
theorem cell_of_heap {w:World} {g:Nat} {cur:Array Value} {e:TypeId} {f:Nat × Nat} (h:w.heap[g]?=some (.cells cur e f)) (j:Nat):w.cell? ⟨g,j,none⟩=cur[j]?:=by simp [World.cell?,h]
theorem frozen_of_heap {w:World} {g:Nat} {cur:Array Value} {e:TypeId} (h:w.heap[g]?=some (.cells cur e (0,0))) (j:Nat):w.frozen? ⟨g,j,none⟩=false:=by simp [World.frozen?,h]
theorem heap_setCell {w:World} {g:Nat} {cur:Array Value} {e:TypeId} {f:Nat × Nat} (h:w.heap[g]?=some (.cells cur e f)) (j:Nat) (v:Value) :
    (w.setCell ⟨g,j,none⟩ v).heap[g]?=some (.cells (cur.setIfInBounds j v) e f):=by
  simp [World.setCell,Array.getElem?_modify,h]
def OwnRow (w:World) (e:TypeId) (size:Nat) (b:Option Nat) (n c:Nat):Prop :=
  (b=none∧n=0∧c=0)∨∃ g cur,b=some g∧w.heap[g]?=some (.cells cur e (0,0))∧cur.size=c * size∧n≤c∧c≤maxLen
theorem OwnRow.touch {T:Nat→Prop} {w w':World} {e:TypeId} {size:Nat} {b:Option Nat} {n c:Nat} (h:OwnRow w e size b n c) (ht:Touch T w w') (hn:∀ g,b=some g→¬ T g):OwnRow w' e size b n c:=by
  rcases h with h | ⟨g,cur,rfl,h1,h2⟩
  · exact .inl h
  · exact .inr ⟨g,cur,rfl,ht.heapAt h1 (hn g rfl),h2⟩
structure Cur (w:World) (h:HG):Prop where
  hp:w.heap[h.p]?=some (.cells #[sl h.b h.bn h.bc,sl h.l h.ln h.lc,sl h.o h.on h.oc,.int .i64 h.m] 126 (0,0))
  rb:OwnRow w 5 1 h.b h.bn h.bc
  rl:OwnRow w 27 3 h.l h.ln h.lc
  ro:OwnRow w 71 3 h.o h.on h.oc
  pb:h.b≠some h.p
  pl:h.l≠some h.p
  po:h.o≠some h.p
  bl:∀ g,h.b=some g→h.l≠some g
  bo:∀ g,h.b=some g→h.o≠some g
  lo:∀ g,h.l=some g→h.o≠some g
theorem Cur.touch {T:Nat→Prop} {w w':World} {h:HG} (hc:Cur w h) (ht:Touch T w w') (np:¬ T h.p) (nb:∀ g,h.b=some g→¬ T g) (nl:∀ g,h.l=some g→¬ T g) (no:∀ g,h.o=some g→¬ T g):Cur w' h :=
  ⟨ht.heapAt hc.hp np,hc.rb.touch ht nb,hc.rl.touch ht nl,hc.ro.touch ht no,hc.pb,hc.pl,hc.po,hc.bl,hc.bo,hc.lo⟩
end
end Go.Proofs.YtolififimldmlaaGreat
