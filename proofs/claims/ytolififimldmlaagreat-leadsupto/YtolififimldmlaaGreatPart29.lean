import Derived.Test.YtolififimldmlaaGreatPart23
import Derived.Test.YtolififimldmlaaGreatPart17
import Derived.Test.YtolififimldmlaaGreatPart28
set_option linter.unusedVariables false
set_option linter.unusedSimpArgs false
set_option maxRecDepth 100000
set_option maxHeartbeats 16000000
namespace Go.Proofs.YtolififimldmlaaGreat
section
open Go.RowKit
attribute [local go_sem ↓] Go.wp_at_zero Go.wp_at_succ
theorem PS.start (KIs:KeeperIs) (Iv:LK→Prop) (x:World) (W:Nat) (H:Nat→HG) (P:Nat→PG):PS KIs Iv x W none 0 H none 0 0 P :=
  ⟨.inl ⟨rfl,rfl,rfl⟩,fun j hj=>absurd hj (by omega),fun j hj=>absurd hj (by omega),fun j hj=>absurd hj (by omega),fun j hj=>absurd hj (by omega),(fun k e=>by cases e),fun j hj=>absurd hj (by omega),fun j hj=>absurd hj (by omega),fun i j hi=>absurd hi (by omega)⟩
def PG.dull:PG:=⟨0,fun _=>False,LK.opened 0 0 0 [] Mm.zero⟩
def Played (KIs:KeeperIs) (Iv:LK→Prop) (lead:Bool) (bd:Nat) (w:World) (k:Nat) (wr:World):Prop :=
  ∃ (n:Nat) (gh:Option Nat) (cap:Nat) (H:Nat→HG) (gp:Option Nat) (np cp:Nat) (P:Nat→PG),n≤bd * k∧WI wr w.heap.size (sl gp np cp) lead gh n cap H∧PS KIs Iv wr w.heap.size gh n H gp np cp P∧np≤6∧(∀ q,gh=some q→w.heap.size≤q)∧(∀ q,gp=some q→w.heap.size≤q)∧Below w.heap.size w wr
theorem Played.start (KIs:KeeperIs) (Iv:LK→Prop) (lead:Bool) (bd:Nat) (w:World):Played KIs Iv lead bd w 0 (w.alloc (.cells #[.slice none 0 0,.slice none 0 0,.bool lead] 81)) :=
  ⟨0,none,0,fun _=>HG.dull,none,0,0,fun _=>PG.dull,Nat.zero_le _,WI.start _ _ _,PS.start _ _ _ _ _ _,by omega,(fun _ e=>by cases e),(fun _ e=>by cases e),(Below.refl _ _).alloc (Nat.le_refl _) _⟩
theorem Played.same {KIs:KeeperIs} {Iv:LK→Prop} {lead:Bool} {bd:Nat} {w wr:World} {k:Nat} (h:Played KIs Iv lead bd w k wr):Played KIs Iv lead bd w (k+1) wr:=by
  obtain ⟨n,gh,cap,H,gp,np,cp,P,h1,h2⟩:=h
  exact ⟨n,gh,cap,H,gp,np,cp,P,by rw [Nat.mul_succ];omega,h2⟩
theorem Played.below {KIs:KeeperIs} {Iv:LK→Prop} {lead:Bool} {bd:Nat} {w wr:World} {k:Nat} (h:Played KIs Iv lead bd w k wr):Below w.heap.size w wr:=by
  obtain ⟨n,gh,cap,H,gp,np,cp,P,h1,h2,h3,h4,h5,h6,h7⟩:=h
  exact h7
def StepSaid (KIs:KeeperIs) (Iv:LK→Prop) (lead:Bool) (bd:Nat) (o:OpG):Prop:=∀ (x:World) (W:Nat) (gh:Option Nat) (n cap:Nat) (H:Nat→HG) (gp:Option Nat) (np cp:Nat) (P:Nat→PG),WI x W (sl gp np cp) lead gh n cap H→PS KIs Iv x W gh n H gp np cp P→np≤6→n≤95000000→LinesAt x o.fa o.f.lines →
  Calls Tryz.prog 30 #[.pointer (some ⟨W,0,none⟩),.agg o.cells] x fun e y=>e=.returned (.bool true)∧∃ m,m≤bd∧LawAt KIs Iv x W lead (n+m) gh gp y
theorem LawAt.played {KIs:KeeperIs} {Iv:LK→Prop} (HKS:KeepsSaid KIs) {lead:Bool} {bd:Nat} {w wr y z:World} {k n m:Nat} {gh gp:Option Nat} (h:LawAt KIs Iv wr w.heap.size lead (n+m) gh gp y) (hn:n≤bd * k) (hm:m≤bd) (hg:∀ q,gh=some q→w.heap.size≤q) (hp:∀ q,gp=some q→w.heap.size≤q) (hb:Below w.heap.size w wr) (hz:Below y.heap.size y z):Played KIs Iv lead bd w (k+1) z:=by
  obtain ⟨⟨gh',cap',H',gp',np,cp,P,a1,a2,a3,a4,a5⟩,t⟩:=h
  have hs:=hb.size
  have tb:Below w.heap.size wr y:=t.below hs (fun q hq e=>by
    rcases e with e | e | e
    · omega
    · exact hg q e
    · exact hp q e)
  have ys:=tb.size
  refine ⟨n+m,gh',cap',H',gp',np,cp,P,by rw [Nat.mul_succ];omega,a1.below hz,a2.below HKS hz,a3,fun q e=>?_,fun q e=>?_,(hb.trans tb).trans (hz.mono (by omega))⟩
  · rcases a4 q e with e | e
    · exact hg q e
    · omega
  · rcases a5 q e with e | e
    · exact hp q e
    · omega
theorem playsG (KIs:KeeperIs) (Iv:LK→Prop) (lead:Bool) (bd:Nat) (HKS:KeepsSaid KIs) (least last:Int) (w:World) (a:Option Addr) (cap:Nat) (ops:List OpG) (hops:OpsAt w a ops) (hst:∀ o ∈ ops,least≤o.kind→o.kind≤last→StepSaid KIs Iv lead bd o) (hlen:ops.length≤10000000) (hbd:bd * ops.length≤95000000) (hb1:bd≤1000) :
    Calls Tryz.prog 13 #[sla a ops.length cap,.int .i64 least,.int .i64 last,.bool lead] w fun e y=>e=.returned (.int .i64 (-1))∧Below w.heap.size w y:=by
  have HO:=hid hops
  have HS:=hid hst
  have HBD:=hid hbd
  clear hops hst hbd
  unfold sla
  go_enter Tryz.func13,Tryz.ntmps13
  go_wp2
  go_loopw [10] (fun i wr=>∃ k:Nat,k≤ops.length∧i=.int .i64 k∧Hid (Played KIs Iv lead bd w k wr)) (fun i _=>ops.length - (intOf i).toNat)
  case atStart=>exact ⟨0,Nat.zero_le _,rfl,Played.start KIs Iv lead bd w⟩
  case round =>
    obtain ⟨k,hk,rfl,HI⟩:=hrel
    by_cases hlt:k < ops.length
    · obtain ⟨g,o,rfl,hc,hl⟩:=(HO.out.below HI.out.below) k hlt
      have HSO:=hid (HS.out ops[k] (List.getElem_mem hlt))
      have HLN:=hid hl
      have b1:(0:Int)≤(k:Int):=by omega
      have b2:(k:Int) < (ops.length:Int):=by omega
      generalize ops[k]=op at hc HSO HLN
      have z0:wr.cell? ⟨g,o+k * 17,none⟩=some (.int .i64 op.kind):=hc 0 (by omega)
      have z1:wr.cell? ⟨g,o+k * 17+1,none⟩=some (.int .i64 op.n):=hc 1 (by omega)
      have z2:wr.cell? ⟨g,o+k * 17+2,none⟩=some (.string ⟨op.s.toArray⟩):=hc 2 (by omega)
      have z3:wr.cell? ⟨g,o+k * 17+3,none⟩=some (.int .i64 op.f.kind):=hc 3 (by omega)
      have z4:wr.cell? ⟨g,o+k * 17+4,none⟩=some (.int .i64 op.f.frm):=hc 4 (by omega)
      have z5:wr.cell? ⟨g,o+k * 17+5,none⟩=some (.int .i64 op.f.view):=hc 5 (by omega)
      have z6:wr.cell? ⟨g,o+k * 17+6,none⟩=some (.int .i64 op.f.place):=hc 6 (by omega)
      have z7:wr.cell? ⟨g,o+k * 17+7,none⟩=some (.int .i64 op.f.agreed):=hc 7 (by omega)
      have z8:wr.cell? ⟨g,o+k * 17+8,none⟩=some (.int .i64 op.f.last):=hc 8 (by omega)
      have z9:wr.cell? ⟨g,o+k * 17+9,none⟩=some (.int .i64 op.f.line.c):=hc 9 (by omega)
      have z10:wr.cell? ⟨g,o+k * 17+10,none⟩=some (.int .i64 op.f.line.t):=hc 10 (by omega)
      have z11:wr.cell? ⟨g,o+k * 17+11,none⟩=some (.string ⟨op.f.line.s.toArray⟩):=hc 11 (by omega)
      have z12:wr.cell? ⟨g,o+k * 17+12,none⟩=some (sla op.fa op.f.lines.length op.fc):=hc 12 (by omega)
      have z13:wr.cell? ⟨g,o+k * 17+13,none⟩=some (.int .i64 op.c1):=hc 13 (by omega)
      have z14:wr.cell? ⟨g,o+k * 17+14,none⟩=some (.int .i64 op.c2):=hc 14 (by omega)
      have z15:wr.cell? ⟨g,o+k * 17+15,none⟩=some (.int .i64 op.c3):=hc 15 (by omega)
      have z16:wr.cell? ⟨g,o+k * 17+16,none⟩=some (.int .i64 op.a):=hc 16 (by omega)
      clear hc hl
      rcases Int.lt_or_le op.kind least with h1 | h1
      · go_wp2
        go_roundw
        case rel =>
          first
          | exact ⟨k+1,by omega,by go_num,HI.out.same⟩
          | ((repeat apply Exists.intro);refine ⟨?_,rfl⟩;exact ⟨k+1,by omega,by go_num,HI.out.same⟩)
        case measure=>simp [intOf];omega
      rcases Int.lt_or_le last op.kind with h2 | h2
      · go_wp2
        go_roundw
        case rel =>
          first
          | exact ⟨k+1,by omega,by go_num,HI.out.same⟩
          | ((repeat apply Exists.intro);refine ⟨?_,rfl⟩;exact ⟨k+1,by omega,by go_num,HI.out.same⟩)
        case measure=>simp [intOf];omega
      obtain ⟨n,gh,cp,H,gp,np,cpp,P,hn,hw,hps,h6,hg,hgp,hb⟩:=HI.out
      have hbk:bd * k≤bd * ops.length:=Nat.mul_le_mul_left bd hk
      have hn9:n≤95000000:=Nat.le_trans hn (Nat.le_trans hbk HBD.out)
      have HNN:=hid hn
      clear hn hbk
      have HST:=hid (HSO.out h1 h2 wr w.heap.size gh n cp H gp np cpp P hw hps h6 hn9 HLN.out)
      have HG:=hid hg
      have HGP:=hid hgp
      have HB:=hid hb
      clear hw hps hg hgp hb HSO
      go_wp2_with fail
      refine HST.out.mono ?_
      rintro e y ⟨rfl,m,hm,hst⟩
      have HL:=hid hst
      have HW':=hid hst.ex
      clear hst
      obtain ⟨gh',cap',H',gp',np',cp',P',W',_⟩:=HW'.out
      have HW':=hid W'
      clear W'
      go_wp2_with fail
      refine (HW'.out.looks (by omega)).mono ?_
      rintro e z ⟨rfl,hbz⟩
      have HBZ:=hid hbz
      clear hbz
      go_wp2
      go_roundw
      case rel =>
        exact ⟨k+1,by omega,by go_num,HL.out.played HKS HNN.out hm HG.out HGP.out HB.out HBZ.out⟩
      case measure=>simp [intOf];omega
    · go_wp2
      go_ret
      exact ⟨rfl,HI.out.below⟩
end
section
open Go.RowKit
theorem OwnOuts.touch {T:Nat→Prop} {u w w':World} {g:Option Nat} {c:Nat} {os:List OutG} {gs:Nat→Option Nat} {cs:Nat→Nat} (h:OwnOuts u w g c os gs cs) (ht:Touch T w w') (hn:∀ k,(g=some k∨∃ j,j < os.length∧gs j=some k)→¬ T k):OwnOuts u w' g c os gs cs :=
  ⟨h.own.touch ht (fun k e=>hn k (.inl e)),h.new,fun j hj=>by
    obtain ⟨k,e,h0,h1,h2⟩:=h.at_ j hj
    exact ⟨k,e,ht.cell h0 (hn k (.inl e)),ht.cell h1 (hn k (.inl e)),ht.cell h2 (hn k (.inl e))⟩,fun j hj=>(h.bs j hj).touch ht (fun k e=>hn k (.inr ⟨j,hj,e⟩)),h.ne,h.ds⟩
theorem OwnOuts.in_ {u w:World} {g:Option Nat} {c:Nat} {os:List OutG} {gs:Nat→Option Nat} {cs:Nat→Nat} (h:OwnOuts u w g c os gs cs) (k:Nat) (e:g=some k∨∃ j,j < os.length∧gs j=some k):u.heap.size≤k∧k < w.heap.size:=by
  rcases e with e | ⟨j,hj,e⟩
  · exact ⟨h.new k e,h.own.lt e⟩
  · exact ⟨(h.bs j hj).new k e,(h.bs j hj).own.lt e⟩
structure KeptN (y:World) (W:Nat) (psv:Value) (lead:Bool) (gh:Option Nat) (n m:Nat) (H:Nat→HG) (R:Nat→Prop) (z:World) (gh':Option Nat) (cap':Nat) (H':Nat→HG):Prop where
  wi:WI z W psv lead gh' (n+m) cap' H'
  gg:∀ k,gh'=some k→gh=some k∨y.heap.size≤k
  fr:∀ k,k < y.heap.size→Free W gh n H k→¬ R k→Free W gh' (n+m) H' k
  tch:Touch (fun k=>k=W∨gh=some k∨R k) y z
theorem KeptN.start {y:World} {W:Nat} {psv:Value} {lead:Bool} {gh:Option Nat} {n cap:Nat} {H:Nat→HG} (h:WI y W psv lead gh n cap H) (R:Nat→Prop):KeptN y W psv lead gh n 0 H R y gh cap H :=
  ⟨h,fun _ e=>.inl e,fun _ _ f _=>f,Touch.refl _ _⟩
theorem KeptN.below {y z z':World} {W:Nat} {psv:Value} {lead:Bool} {gh gh':Option Nat} {n m cap':Nat} {H H':Nat→HG} {R:Nat→Prop} (h:KeptN y W psv lead gh n m H R z gh' cap' H') (hb:Below z.heap.size z z'):KeptN y W psv lead gh n m H R z' gh' cap' H' :=
  ⟨h.wi.below hb,h.gg,h.fr,h.tch.trans (Touch.of_belowAll hb (fun _=>False)) (fun _ _ e=>e.elim)⟩
theorem KeptN.mono {y z:World} {W:Nat} {psv:Value} {lead:Bool} {gh gh':Option Nat} {n m cap':Nat} {H H':Nat→HG} {R R':Nat→Prop} (h:KeptN y W psv lead gh n m H R z gh' cap' H') (hr:∀ k,R k→R' k):KeptN y W psv lead gh n m H R' z gh' cap' H' :=
  ⟨h.wi,h.gg,fun k hk f r=>h.fr k hk f (fun e=>r (hr k e)),h.tch.mono (fun k _ e=>by
    rcases e with e | e | e
    · exact .inl e
    · exact .inr (.inl e)
    · exact .inr (.inr (hr k e)))⟩
theorem KeptN.next {y z z':World} {W:Nat} {psv:Value} {lead:Bool} {gh gh':Option Nat} {n m cap':Nat} {H H':Nat→HG} {R R':Nat→Prop} (h:KeptN y W psv lead gh n m H R z gh' cap' H') (q:KeptH z W psv lead gh' (n+m) H' R' z') :
    ∃ gh2 cap2 H2,KeptN y W psv lead gh n (m+4) H (fun k=>R k∨R' k) z' gh2 cap2 H2:=by
  obtain ⟨⟨gh2,cap2,H2,w2,g2,f2⟩,t2⟩:=q
  have hs:=h.tch.size
  refine ⟨gh2,cap2,H2,w2,fun k e=>?_,fun k hk f r=>f2 k (by omega) (h.fr k hk f (fun e=>r (.inl e))) (fun e=>r (.inr e)),(h.tch.mono (T':=fun k=>k=W∨gh=some k∨(R k∨R' k)) (fun k _ e=>?_)).trans t2 (fun k hk e=>?_)⟩
  · rcases g2 k e with e | e
    · exact h.gg k e
    · exact .inr (by omega)
  · rcases e with e | e | e
    · exact .inl e
    · exact .inr (.inl e)
    · exact .inr (.inr (.inl e))
  · rcases e with e | e | e
    · exact .inl e
    · rcases h.gg k e with e | e
      · exact .inr (.inl e)
      · omega
    · exact .inr (.inr (.inr e))
end
section
open Go.RowKit
attribute [local go_sem ↓] Go.wp_at_zero Go.wp_at_succ
theorem sent_any (y:World) (W:Nat) (psv:Value) (lead:Bool) (gh:Option Nat) (n cap:Nat) (H:Nat→HG) (hw:WI y W psv lead gh n cap H) (u:World) (g:Option Nat) (c:Nat) (os:List OutG) (gs:Nat→Option Nat) (cs:Nat→Nat) (ho:OwnOuts u y g c os gs cs) (gr:Option Nat) (cr:Nat) (hr:OwnOutsR y gr cr os)
    (hfr:∀ k,(g=some k∨∃ j,j < os.length∧gs j=some k)→Free W gh n H k) (h20:os.length≤20) (hbs:∀ o ∈ os,o.b.length≤400) (hn:n≤95000000) :
    Calls Tryz.prog 65 #[.pointer (some ⟨W,0,none⟩),.slice (g.map fun k=>⟨k,0,none⟩) os.length c,.slice (gr.map fun k=>⟨k,0,none⟩) os.length cr] y fun e z=>e=.returned (.bool true)∧∃ gh' cap' H',KeptN y W psv lead gh n (4 * os.length+4) H (fun k=>g=some k∨∃ j,j < os.length∧gs j=some k) z gh' cap' H':=by
  have HWI:=hid hw
  have HO:=hid ho
  have HR:=hid hr
  have HFR:=hid hfr
  have HBS:=hid hbs
  clear hw ho hr hfr hbs
  go_enter Tryz.func65,Tryz.ntmps65
  go_wp2
  go_loopw [7,8] (fun okv i wr=>∃ k:Nat,k≤os.length∧okv=.bool true∧i=.int .i64 k∧Hid (Below y.heap.size y wr)) (fun _ i _=>os.length - (intOf i).toNat)
  case atStart=>exact ⟨0,Nat.zero_le _,by first | rfl | simp,rfl,Below.refl _ _⟩
  case round =>
    obtain ⟨k,hk,rfl,rfl,HB⟩:=hrel
    by_cases hlt:k < os.length
    · have b0:(0:Int)≤(k:Int):=by omega
      have b1:(k:Int) < (os.length:Int):=by omega
      obtain ⟨g0,eg,a0,a1,a2⟩:=(HO.out.below HB.out).at_ k hlt
      obtain ⟨r0,er,d0,d1,d2⟩:=(HR.out.touch (Touch.of_belowAll HB.out (fun _=>False)) (fun _ _ e=>e)).at_ k hlt
      have HOB:=hid ((HO.out.below HB.out).bs k hlt)
      generalize os[k]=ok at *
      obtain ⟨cl,tk,pd⟩:=ok
      dsimp only at *
      subst eg er
      generalize gs k=gb at *
      generalize cs k=cb at *
      generalize os.length=N at *
      simp only [Option.map_some]
      unfold sl at a2
      go_wp2
      have hS0:(fun z:World=>z.cell? ⟨g0,k * 3,none⟩=some (.bool cl)∧z.cell? ⟨g0,k * 3+1,none⟩=some (.int .i64 tk)∧z.cell? ⟨g0,k * 3+2,none⟩=some (.slice (gb.map fun k=>⟨k,0,none⟩) pd.length cb)∧z.cell? ⟨r0,k * 3,none⟩=some (.bool cl)∧z.cell? ⟨r0,k * 3+1,none⟩=some (.int .i64 tk)∧z.cell? ⟨r0,k * 3+2,none⟩=some (.string ⟨pd.toArray⟩)∧(convert 31 9 (.slice (gb.map fun k=>⟨k,0,none⟩) pd.length cb)).run Tryz.prog z=.ok (.string ⟨pd.toArray⟩) z) wr.drew:=⟨a0,a1,a2,d0,d1,d2,conv_bytes gb cb pd wr.drew (HOB.out.below ((Below.refl _ _).drew)).at_⟩
      have HB1:=hid (HB.out.drew)
      clear a0 a1 a2 d0 d1 d2 HOB HB HO HR HFR HBS HWI
      refine wp_region_held_drew (S:=fun z:World=>z.cell? ⟨g0,k * 3,none⟩=some (.bool cl)∧z.cell? ⟨g0,k * 3+1,none⟩=some (.int .i64 tk)∧z.cell? ⟨g0,k * 3+2,none⟩=some (.slice (gb.map fun k=>⟨k,0,none⟩) pd.length cb)∧z.cell? ⟨r0,k * 3,none⟩=some (.bool cl)∧z.cell? ⟨r0,k * 3+1,none⟩=some (.int .i64 tk)∧z.cell? ⟨r0,k * 3+2,none⟩=some (.string ⟨pd.toArray⟩)∧(convert 31 9 (.slice (gb.map fun k=>⟨k,0,none⟩) pd.length cb)).run Tryz.prog z=.ok (.string ⟨pd.toArray⟩) z) (by kernel_rfl) hS0 (fun hS=>?_)
      clear hS0
      refine tH 0 hS ?_
      try simp only [lA,lB,lC,Act.put,lD,lE,lF]
      refine tH 1 hS ?_
      try simp only [lA,lB,lC,Act.put,lD,lE,lF]
      refine tH 2 hS ?_
      try simp only [lA,lB,lC,Act.put,lD,lE,lF]
      refine tH 3 hS ?_
      try simp only [lA,lB,lC,Act.put,lD,lE,lF]
      refine tH 4 hS ?_
      try simp only [lA,lB,lC,Act.put,lD,lE,lF]
      refine tH 5 hS ?_
      try simp only [lA,lB,lC,Act.put,lD,lE,lF]
      refine tH 6 hS ?_ (hy:=by (intro w hw;obtain ⟨s0,s1,s2,s3,s4,s5,s6⟩:=hw;go_simp;try with_reducible rfl))
      try simp only [lA,lB,lC,Act.put,lD,lE,lF]
      refine tH 7 hS ?_
      try simp only [lA,lB,lC,Act.put,lD,lE,lF]
      refine tH 8 hS ?_
      try simp only [lA,lB,lC,Act.put,lD,lE,lF]
      refine tH 9 hS ?_
      try simp only [lA,lB,lC,Act.put,lD,lE,lF]
      refine tH 10 hS ?_
      try simp only [lA,lB,lC,Act.put,lD,lE,lF]
      refine tH 11 hS ?_ (hy:=by (intro w hw;obtain ⟨s0,s1,s2,s3,s4,s5,s6⟩:=hw;go_simp;try with_reducible rfl))
      try simp only [lA,lB,lC,Act.put,lD,lE,lF]
      refine tH 12 hS ?_
      try simp only [lA,lB,lC,Act.put,lD,lE,lF]
      refine tH 13 hS ?_
      try simp only [lA,lB,lC,Act.put,lD,lE,lF]
      refine tH 14 hS ?_
      try simp only [lA,lB,lC,Act.put,lD,lE,lF]
      refine tH 15 hS ?_
      try simp only [lA,lB,lC,Act.put,lD,lE,lF]
      refine tH 16 hS ?_
      try simp only [lA,lB,lC,Act.put,lD,lE,lF]
      refine tH 17 hS ?_
      try simp only [lA,lB,lC,Act.put,lD,lE,lF]
      refine tH 18 hS ?_
      try simp only [lA,lB,lC,Act.put,lD,lE,lF]
      refine tH 19 hS ?_ (hy:=by (intro w hw;obtain ⟨s0,s1,s2,s3,s4,s5,s6⟩:=hw;go_simp;try with_reducible rfl))
      try simp only [lA,lB,lC,Act.put,lD,lE,lF]
      refine tH 20 hS ?_
      try simp only [lA,lB,lC,Act.put,lD,lE,lF]
      refine tH 21 hS ?_
      try simp only [lA,lB,lC,Act.put,lD,lE,lF]
      refine tH 22 hS ?_
      try simp only [lA,lB,lC,Act.put,lD,lE,lF]
      refine tH 23 hS ?_
      try simp only [lA,lB,lC,Act.put,lD,lE,lF]
      refine tH 24 hS ?_ (hy:=by (intro w hw;obtain ⟨s0,s1,s2,s3,s4,s5,s6⟩:=hw;go_simp;try with_reducible rfl))
      try simp only [lA,lB,lC,Act.put,lD,lE,lF]
      refine tH 25 hS ?_
      try simp only [lA,lB,lC,Act.put,lD,lE,lF]
      refine tH 26 hS ?_
      try simp only [lA,lB,lC,Act.put,lD,lE,lF]
      refine tH 27 hS ?_
      try simp only [lA,lB,lC,Act.put,lD,lE,lF]
      refine tH 28 hS ?_
      try simp only [lA,lB,lC,Act.put,lD,lE,lF]
      refine tH 29 hS ?_
      try simp only [lA,lB,lC,Act.put,lD,lE,lF]
      refine tH 30 hS ?_
      try simp only [lA,lB,lC,Act.put,lD,lE,lF]
      refine tH 31 hS ?_
      try simp only [lA,lB,lC,Act.put,lD,lE,lF]
      refine tH 32 hS ?_ (hy:=by (intro w hw;obtain ⟨s0,s1,s2,s3,s4,s5,s6⟩:=hw;go_simp;try with_reducible rfl))
      try simp only [lA,lB,lC,Act.put,lD,lE,lF]
      refine tH 33 hS ?_ (hy:=by (intro w hw;obtain ⟨s0,s1,s2,s3,s4,s5,s6⟩:=hw;go_simp;try with_reducible rfl))
      try simp only [lA,lB,lC,Act.put,lD,lE,lF]
      refine tH 34 hS ?_
      try simp only [lA,lB,lC,Act.put,lD,lE,lF]
      refine tH 35 hS ?_
      try simp only [lA,lB,lC,Act.put,lD,lE,lF]
      refine tH 36 hS ?_
      try simp only [lA,lB,lC,Act.put,lD,lE,lF]
      refine tH 37 hS ?_
      try simp only [lA,lB,lC,Act.put,lD,lE,lF]
      refine tH 38 hS ?_ (hy:=by (intro w hw;obtain ⟨s0,s1,s2,s3,s4,s5,s6⟩:=hw;go_simp;try with_reducible rfl))
      try simp only [lA,lB,lC,Act.put,lD,lE,lF]
      refine tH 39 hS ?_
      try simp only [lA,lB,lC,Act.put,lD,lE,lF]
      refine tH 40 hS ?_
      try simp only [lA,lB,lC,Act.put,lD,lE,lF]
      refine tH 41 hS ?_
      try simp only [lA,lB,lC,Act.put,lD,lE,lF]
      refine wpAnyH_done (by kernel_rfl) ?_ _
      clear hS
      go_wp2
      go_roundw
      case rel =>
        first
        | exact ⟨k+1,by omega,by simp,by go_num,HB1⟩
        | ((repeat apply Exists.intro);refine ⟨?_,rfl⟩;exact ⟨k+1,by omega,by simp,by go_num,HB1⟩)
      case measure=>simp [intOf];omega
    · have HB1:=hid HB.out
      clear HB
      go_wp2
      go_loopw [9] (fun i wr=>∃ (j:Nat) (gh':Option Nat) (cap':Nat) (H':Nat→HG),j≤os.length∧i=.int .i64 j∧Hid (KeptN y W psv lead gh n (4 * j) H (fun q=>∃ t,t < j∧gs t=some q) wr gh' cap' H')) (fun i _=>os.length - (intOf i).toNat)
      case atStart=>exact ⟨0,gh,cap,H,Nat.zero_le _,rfl,(KeptN.start HWI.out _).below HB1.out⟩
      case round =>
        obtain ⟨j,gh',cap',H',hj,rfl,HK⟩:=hrel
        have noT:Hid (∀ q,g=some q→¬ (q=W∨gh=some q∨∃ t,t < j∧gs t=some q)):=fun q e t=>by
          have f:=HFR.out q (.inl e)
          rcases t with t | t | ⟨t,ht,t2⟩
          · exact f.1 t
          · exact f.2.1 t
          · exact HO.out.ne t (by omega) q t2 e
        by_cases hjl:j < os.length
        · have b0:(0:Int)≤(j:Int):=by omega
          have b1:(j:Int) < (os.length:Int):=by omega
          obtain ⟨g0,eg,_,_,a2⟩:=HO.out.at_ j hjl
          have z2:=HK.out.tch.cell a2 (noT.out g0 eg)
          clear a2
          have noB:Hid (∀ q,gs j=some q→¬ ∃ t,t < j∧gs t=some q):=fun q e ⟨t,ht,t2⟩=>HO.out.ds t j ht hjl q t2 e
          have ROW:Hid (OwnRow wr 5 1 (gs j) os[j].b.length (cs j)):=(HO.out.bs j hjl).own.touch HK.out.tch (fun q e t=>by
            have f:=HFR.out q (.inr ⟨j,hjl,e⟩)
            rcases t with t | t | t
            · exact f.1 t
            · exact f.2.1 t
            · exact noB.out q e t)
          have FRE:Hid (∀ q,gs j=some q→Free W gh' (n+4 * j) H' q):=fun q e=>HK.out.fr q ((HO.out.bs j hjl).own.lt e) (HFR.out q (.inr ⟨j,hjl,e⟩)) (noB.out q e)
          have h400:os[j].b.length≤400:=HBS.out _ (List.getElem_mem hjl)
          generalize os[j].b.length=M at *
          generalize hgj:gs j=gj at *
          have HGJ:=hid hgj
          generalize cs j=cj at *
          clear hgj
          unfold sl at z2
          subst eg
          simp only [Option.map_some] at z2 ⊢
          go_wp2_with fail
          refine (keep_hold wr W psv lead gh' (n+4 * j) cap' H' HK.out.wi gj none none M cj 0 0 0 0 ROW.out (.inl ⟨rfl,rfl,rfl⟩) (.inl ⟨rfl,rfl,rfl⟩) (fun g _ e=>by cases e) (fun g _ e=>by cases e) (fun g e=>by cases e)
            (fun k' e=>FRE.out k' (by rcases e with e | e | e;exact e;cases e;cases e)) (by omega) (by omega) (by omega) (by omega)).mono ?_
          rintro e z ⟨rfl,K1⟩
          obtain ⟨gh2,cap2,H2,KN⟩:=HK.out.next K1
          have KN2:Hid (KeptN y W psv lead gh n (4 * (j+1)) H (fun q=>∃ t,t < j+1∧gs t=some q) z gh2 cap2 H2):=KN.mono (fun q e=>by
            rcases e with ⟨t,ht,e⟩ | e | e | e
            · exact ⟨t,by omega,e⟩
            · exact ⟨j,by omega,by rw [HGJ.out];exact e⟩
            · cases e
            · cases e)
          clear K1 KN z2
          go_wp2
          go_roundw
          case rel =>
            first
            | exact ⟨j+1,gh2,cap2,H2,by omega,by go_num,KN2⟩
            | ((repeat apply Exists.intro);refine ⟨?_,rfl⟩;exact ⟨j+1,gh2,cap2,H2,by omega,by go_num,KN2⟩)
          case measure=>simp [intOf];omega
        · have hje:j=os.length:=by omega
          subst hje
          have ROW:Hid (OwnRow wr 71 3 g os.length c):=HO.out.own.touch HK.out.tch noT.out
          have FRE:Hid (∀ q,g=some q→Free W gh' (n+4 * os.length) H' q):=fun q e=>HK.out.fr q (HO.out.own.lt e) (HFR.out q (.inl e)) (fun ⟨t,ht,t2⟩=>HO.out.ne t ht q t2 e)
          go_wp2_with fail
          refine (keep_hold wr W psv lead gh' (n+4 * os.length) cap' H' HK.out.wi none none g 0 0 0 0 os.length c (.inl ⟨rfl,rfl,rfl⟩) (.inl ⟨rfl,rfl,rfl⟩) ROW.out (fun g e=>by cases e) (fun g e=>by cases e) (fun g e=>by cases e)
            (fun k' e=>FRE.out k' (by rcases e with e | e | e;cases e;cases e;exact e)) (by omega) (by omega) (by omega) (by omega)).mono ?_
          rintro e z ⟨rfl,K1⟩
          obtain ⟨gh2,cap2,H2,KN⟩:=HK.out.next K1
          have KN2:Hid (KeptN y W psv lead gh n (4 * os.length+4) H (fun k=>g=some k∨∃ j,j < os.length∧gs j=some k) z gh2 cap2 H2):=KN.mono (fun q e=>by
            rcases e with e | e | e | e
            · exact .inr e
            · cases e
            · cases e
            · exact .inl e)
          clear K1 KN
          go_wp2
          go_ret
          exact ⟨rfl,gh2,cap2,H2,KN2.out⟩
theorem otherTick (x:World) (W:Nat) (psv:Value) (gh:Option Nat) (n cap:Nat) (H:Nat→HG) (hw:WI x W psv true gh n cap H) (pp K Kr:Nat) (hp:x.heap[pp]?=some (.cells #[.pointer (some ⟨K,0,none⟩),.pointer (some ⟨Kr,0,none⟩)] 121 (0,0))) (me:Int) (hm:x.cell? ⟨Kr,1,none⟩=some (.int .i64 me)) (o:OpG) (ho:o.kind=10) (r:Bool) (hr:(me != 0)=r) :
    Calls Tryz.prog 61 #[.pointer (some ⟨W,0,none⟩),.pointer (some ⟨pp,0,none⟩),.agg o.cells] x fun e y=>e=.returned (.bool r)∧Below x.heap.size x y:=by
  have hWl:W < x.heap.size:=heap_lt hw.wb
  have hpl:pp < x.heap.size:=heap_lt hp
  have hKl:Kr < x.heap.size:=World.block_lt_of_cell? _ _ hm
  have w2:=cell_of_heap hw.wb 2
  have p1:=cell_of_heap hp 1
  simp only [List.getElem?_toArray,List.getElem?_cons_zero,List.getElem?_cons_succ] at w2 p1
  clear hw hp
  unfold OpG.cells sla
  obtain ⟨okind,on,l,f,fa,fc,k1,k2,k3,oa⟩:=o
  dsimp only at *
  subst ho
  subst hr
  go_enter Tryz.func61,Tryz.ntmps61
  go_wp2
  go_ret
  exact ⟨rfl,(Below.refl _ _).alloc (Nat.le_refl _) _⟩
def otherR (b:List UInt8):Bool:=match unpackR b with
  | none=>false
  | some f=>(f.kind == 5) || (f.kind == 6) || ((f.kind != 1) && (f.view != 0))
theorem otherHeard (x:World) (W:Nat) (psv:Value) (gh:Option Nat) (n cap:Nat) (H:Nat→HG) (hw:WI x W psv true gh n cap H) (pp:Nat) (o:OpG) (ho:o.kind=9) (hsl:o.s.length≤9000000) :
    Calls Tryz.prog 61 #[.pointer (some ⟨W,0,none⟩),.pointer (some ⟨pp,0,none⟩),.agg o.cells] x fun e y=>e=.returned (.bool (otherR o.s))∧Below x.heap.size x y:=by
  have hWl:W < x.heap.size:=heap_lt hw.wb
  have w2:=cell_of_heap hw.wb 2
  simp only [List.getElem?_toArray,List.getElem?_cons_zero,List.getElem?_cons_succ] at w2
  clear hw
  unfold OpG.cells sla
  obtain ⟨okind,on,l,f,fa,fc,k1,k2,k3,oa⟩:=o
  dsimp only at *
  subst ho
  unfold otherR
  cases hR:unpackR l with
  | none =>
    have HU:Hid (∀ z,Calls Tryz.prog 97 #[.string ⟨l.toArray⟩] z fun e w'=>∃ (g:Option Nat) (c:Nat),e=.returned (.tuple #[.agg #[.int .i64 0,.int .i64 0,.int .i64 0,.int .i64 0,.int .i64 0,.int .i64 0,.int .i64 0,.int .i64 0,.string ⟨#[]⟩,.slice (g.map fun k:Nat=>(⟨k,0,none⟩:Addr)) 0 c],.int .i64 3])∧Below z.heap.size z w'):=fun z=>(refUnpack_any l z (by omega)).mono (by
      rintro e w' ⟨g,c,he,ho,hb⟩
      obtain ⟨u1,u2⟩:=un_no hR
      rw [u1] at he ho
      rw [u2] at he
      exact ⟨g,c,he,hb⟩)
    clear hR
    go_enter Tryz.func61,Tryz.ntmps61
    go_wp2_with fail
    refine (HU.out _).mono ?_
    rintro e X ⟨g,c,rfl,hb1⟩
    have HB:Hid (Below x.heap.size x X):=((Below.refl _ x).alloc (Nat.le_refl _) _).trans (hb1.mono (by simp))
    clear hb1 HU
    go_wp2
    go_ret
    exact ⟨rfl,HB.out.alloc HB.out.size _⟩
  | some q =>
    obtain ⟨kind,frm,view,place,agreed,last,⟨lc,lt,sb⟩,ls⟩:=q
    dsimp only
    have HU:Hid (∀ z,Calls Tryz.prog 97 #[.string ⟨l.toArray⟩] z fun e w'=>∃ g c,e=.returned (.tuple #[.agg #[.int .i64 kind,.int .i64 frm,.int .i64 view,.int .i64 place,.int .i64 agreed,.int .i64 last,.int .i64 lc,.int .i64 lt,.string ⟨sb.toArray⟩,.slice (g.map fun k=>⟨k,0,none⟩) ls.length c],.int .i64 0])∧OwnLines z w' g c ls∧Below z.heap.size z w'):=fun z=>(refUnpack_any l z (by omega)).mono (by
      rintro e w' ⟨g,c,he,ho,hb⟩
      obtain ⟨u1,u2⟩:=un_yes hR
      rw [u1] at he ho
      rw [u2] at he
      exact ⟨g,c,he,ho,hb⟩)
    clear hR
    have key:∀ r,((kind == 5) || (kind == 6) || ((kind != 1) && (view != 0)))=r→((kind=5∧r=true)∨(kind=6∧r=true)∨(kind=1∧r=false)∨((kind == 5)=false∧(kind == 6)=false∧(kind != 1)=true∧(view != 0)=r)):=by
      intro r hr
      by_cases h5:kind=5
      · subst h5;exact .inl ⟨rfl,by simpa using hr.symm⟩
      by_cases h6:kind=6
      · subst h6;exact .inr (.inl ⟨rfl,by simpa using hr.symm⟩)
      by_cases h1:kind=1
      · subst h1;exact .inr (.inr (.inl ⟨rfl,by simpa using hr.symm⟩))
      have e5:(kind == 5)=false:=beq_eq_false_iff_ne.2 h5
      have e6:(kind == 6)=false:=beq_eq_false_iff_ne.2 h6
      have e1:(kind != 1)=true:=bne_iff_ne.2 h1
      rw [e5,e6,e1] at hr
      exact .inr (.inr (.inr ⟨e5,e6,e1,by simpa using hr⟩))
    obtain ⟨r,hr⟩:∃ r,((kind == 5) || (kind == 6) || ((kind != 1) && (view != 0)))=r:=⟨_,rfl⟩
    have hc:=key r hr
    rw [hr]
    clear hr key
    rcases hc with ⟨rfl,rfl⟩ | ⟨rfl,rfl⟩ | ⟨rfl,rfl⟩ | ⟨e5,e6,e1,er⟩
    · go_enter Tryz.func61,Tryz.ntmps61
      go_wp2_with fail
      refine (HU.out _).mono ?_
      rintro e X ⟨g,c,rfl,ho,hb1⟩
      have HB:Hid (Below x.heap.size x X):=((Below.refl _ x).alloc (Nat.le_refl _) _).trans (hb1.mono (by simp))
      clear hb1 HU ho
      go_wp2
      go_ret
      exact ⟨rfl,HB.out.alloc HB.out.size _⟩
    · go_enter Tryz.func61,Tryz.ntmps61
      go_wp2_with fail
      refine (HU.out _).mono ?_
      rintro e X ⟨g,c,rfl,ho,hb1⟩
      have HB:Hid (Below x.heap.size x X):=((Below.refl _ x).alloc (Nat.le_refl _) _).trans (hb1.mono (by simp))
      clear hb1 HU ho
      go_wp2
      go_ret
      exact ⟨rfl,HB.out.alloc HB.out.size _⟩
    · go_enter Tryz.func61,Tryz.ntmps61
      go_wp2_with fail
      refine (HU.out _).mono ?_
      rintro e X ⟨g,c,rfl,ho,hb1⟩
      have HB:Hid (Below x.heap.size x X):=((Below.refl _ x).alloc (Nat.le_refl _) _).trans (hb1.mono (by simp))
      clear hb1 HU ho
      go_wp2
      go_ret
      exact ⟨rfl,HB.out.alloc HB.out.size _⟩
    · go_enter Tryz.func61,Tryz.ntmps61
      go_wp2_with fail
      refine (HU.out _).mono ?_
      rintro e X ⟨g,c,rfl,ho,hb1⟩
      have HB:Hid (Below x.heap.size x X):=((Below.refl _ x).alloc (Nat.le_refl _) _).trans (hb1.mono (by simp))
      clear hb1 HU ho
      go_wp2
      go_ret
      exact ⟨rfl,HB.out.alloc HB.out.size _⟩
end
end Go.Proofs.YtolififimldmlaaGreat
