import Derived.Test.YtolififimldmlaaGreatPart16
import Derived.Test.YtolififimldmlaaGreatPart15
import Derived.Test.YtolififimldmlaaGreatPart10
import Derived.Test.YtolififimldmlaaGreatPart12
import Derived.Test.YtolififimldmlaaGreatPart05
import Derived.RegionTactic
import Derived.Deep.RegionHeld
set_option linter.unusedVariables false
set_option linter.unusedSimpArgs false
set_option maxRecDepth 100000
set_option maxHeartbeats 16000000
namespace Go.Proofs.YtolififimldmlaaGreat
section
open Go.RowKit
attribute [local go_sem ↓] Go.wp_at_zero Go.wp_at_succ
theorem PS.start (KIs:KeeperIs) (Iv:LK→Prop) (x:World) (W:Nat) (H:Nat→HG) (P:Nat→PG):PS KIs Iv x W none 0 H none 0 0 P :=
  ⟨.inl ⟨rfl,rfl,rfl⟩,fun j hj=>absurd hj (by omega),fun j hj=>absurd hj (by omega),fun j hj=>absurd hj (by omega),fun j hj=>absurd hj (by omega),(fun k e=>by cases e),fun j hj=>absurd hj (by omega),fun j hj=>absurd hj (by omega),fun i j hi=>absurd hi (by omega)⟩
def PG.dull:PG:=⟨0,fun _=>False,LK.opened 0 0 0 [] Mm.zero⟩
def Played (KIs:KeeperIs) (Iv:LK→Prop) (lead:Bool) (bd:Nat) (w:World) (k:Nat) (wr:World):Prop :=
  ∃ (n:Nat) (gh:Option Nat) (cap:Nat) (H:Nat→HG) (gp:Option Nat) (np cp:Nat) (P:Nat→PG),n≤bd * k∧WI wr w.heap.size (sl gp np cp) lead gh n cap H∧PS KIs Iv wr w.heap.size gh n H gp np cp P∧np≤6∧(∀ q,gh=some q→w.heap.size≤q)∧(∀ q,gp=some q→w.heap.size≤q)∧Below w.heap.size w wr
theorem Played.start (KIs:KeeperIs) (Iv:LK→Prop) (lead:Bool) (bd:Nat) (w:World):Played KIs Iv lead bd w 0 (w.alloc (.cells #[.slice none 0 0,.slice none 0 0,.bool lead] 81)) :=
  ⟨0,none,0,fun _=>HG.dull,none,0,0,fun _=>PG.dull,Nat.zero_le _,WI.start _ _ _,PS.start _ _ _ _ _ _,by omega,(fun _ e=>by cases e),(fun _ e=>by cases e),(Below.refl _ _).alloc (Nat.le_refl _) _⟩
theorem Played.same {KIs:KeeperIs} {Iv:LK→Prop} {lead:Bool} {bd:Nat} {w wr:World} {k:Nat} (h:Played KIs Iv lead bd w k wr):Played KIs Iv lead bd w (k+1) wr:=by
  obtain ⟨n,gh,cap,H,gp,np,cp,P,h1,h2⟩:=h
  exact ⟨n,gh,cap,H,gp,np,cp,P,by rw [Nat.mul_succ];omega,h2⟩
theorem Played.below {KIs:KeeperIs} {Iv:LK→Prop} {lead:Bool} {bd:Nat} {w wr:World} {k:Nat} (h:Played KIs Iv lead bd w k wr):Below w.heap.size w wr:=by
  obtain ⟨n,gh,cap,H,gp,np,cp,P,h1,h2,h3,h4,h5,h6,h7⟩:=h
  exact h7
def StepSaid (KIs:KeeperIs) (Iv:LK→Prop) (lead:Bool) (bd:Nat) (o:OpG):Prop:=∀ (x:World) (W:Nat) (gh:Option Nat) (n cap:Nat) (H:Nat→HG) (gp:Option Nat) (np cp:Nat) (P:Nat→PG),WI x W (sl gp np cp) lead gh n cap H→PS KIs Iv x W gh n H gp np cp P→np≤6→n≤95000000→LinesAt x o.fa o.f.lines →
  Calls Tryz.prog 30 #[.pointer (some ⟨W,0,none⟩),.agg o.cells] x fun e y=>e=.returned (.bool true)∧∃ m,m≤bd∧LawAt KIs Iv x W lead (n+m) gh gp y
theorem LawAt.played {KIs:KeeperIs} {Iv:LK→Prop} (HKS:KeepsSaid KIs) {lead:Bool} {bd:Nat} {w wr y z:World} {k n m:Nat} {gh gp:Option Nat} (h:LawAt KIs Iv wr w.heap.size lead (n+m) gh gp y) (hn:n≤bd * k) (hm:m≤bd) (hg:∀ q,gh=some q→w.heap.size≤q) (hp:∀ q,gp=some q→w.heap.size≤q) (hb:Below w.heap.size w wr) (hz:Below y.heap.size y z):Played KIs Iv lead bd w (k+1) z:=by
  obtain ⟨⟨gh',cap',H',gp',np,cp,P,a1,a2,a3,a4,a5⟩,t⟩:=h
  have hs:=hb.size
  have tb:Below w.heap.size wr y:=t.below hs (fun q hq e=>by
    rcases e with e | e | e
    · omega
    · exact hg q e
    · exact hp q e)
  have ys:=tb.size
  refine ⟨n+m,gh',cap',H',gp',np,cp,P,by rw [Nat.mul_succ];omega,a1.below hz,a2.below HKS hz,a3,fun q e=>?_,fun q e=>?_,(hb.trans tb).trans (hz.mono (by omega))⟩
  · rcases a4 q e with e | e
    · exact hg q e
    · omega
  · rcases a5 q e with e | e
    · exact hp q e
    · omega
theorem playsG (KIs:KeeperIs) (Iv:LK→Prop) (lead:Bool) (bd:Nat) (HKS:KeepsSaid KIs) (least last:Int) (w:World) (a:Option Addr) (cap:Nat) (ops:List OpG) (hops:OpsAt w a ops) (hst:∀ o ∈ ops,least≤o.kind→o.kind≤last→StepSaid KIs Iv lead bd o) (hlen:ops.length≤10000000) (hbd:bd * ops.length≤95000000) (hb1:bd≤1000) :
    Calls Tryz.prog 13 #[sla a ops.length cap,.int .i64 least,.int .i64 last,.bool lead] w fun e y=>e=.returned (.int .i64 (-1))∧Below w.heap.size w y:=by
  have HO:=hid hops
  have HS:=hid hst
  have HBD:=hid hbd
  clear hops hst hbd
  unfold sla
  go_enter Tryz.func13,Tryz.ntmps13
  go_wp2
  go_loopw [10] (fun i wr=>∃ k:Nat,k≤ops.length∧i=.int .i64 k∧Hid (Played KIs Iv lead bd w k wr)) (fun i _=>ops.length - (intOf i).toNat)
  case atStart=>exact ⟨0,Nat.zero_le _,rfl,Played.start KIs Iv lead bd w⟩
  case round =>
    obtain ⟨k,hk,rfl,HI⟩:=hrel
    by_cases hlt:k < ops.length
    · obtain ⟨g,o,rfl,hc,hl⟩:=(HO.out.below HI.out.below) k hlt
      have HSO:=hid (HS.out ops[k] (List.getElem_mem hlt))
      have HLN:=hid hl
      have b1:(0:Int)≤(k:Int):=by omega
      have b2:(k:Int) < (ops.length:Int):=by omega
      generalize ops[k]=op at hc HSO HLN
      have z0:wr.cell? ⟨g,o+k * 17,none⟩=some (.int .i64 op.kind):=hc 0 (by omega)
      have z1:wr.cell? ⟨g,o+k * 17+1,none⟩=some (.int .i64 op.n):=hc 1 (by omega)
      have z2:wr.cell? ⟨g,o+k * 17+2,none⟩=some (.string ⟨op.s.toArray⟩):=hc 2 (by omega)
      have z3:wr.cell? ⟨g,o+k * 17+3,none⟩=some (.int .i64 op.f.kind):=hc 3 (by omega)
      have z4:wr.cell? ⟨g,o+k * 17+4,none⟩=some (.int .i64 op.f.frm):=hc 4 (by omega)
      have z5:wr.cell? ⟨g,o+k * 17+5,none⟩=some (.int .i64 op.f.view):=hc 5 (by omega)
      have z6:wr.cell? ⟨g,o+k * 17+6,none⟩=some (.int .i64 op.f.place):=hc 6 (by omega)
      have z7:wr.cell? ⟨g,o+k * 17+7,none⟩=some (.int .i64 op.f.agreed):=hc 7 (by omega)
      have z8:wr.cell? ⟨g,o+k * 17+8,none⟩=some (.int .i64 op.f.last):=hc 8 (by omega)
      have z9:wr.cell? ⟨g,o+k * 17+9,none⟩=some (.int .i64 op.f.line.c):=hc 9 (by omega)
      have z10:wr.cell? ⟨g,o+k * 17+10,none⟩=some (.int .i64 op.f.line.t):=hc 10 (by omega)
      have z11:wr.cell? ⟨g,o+k * 17+11,none⟩=some (.string ⟨op.f.line.s.toArray⟩):=hc 11 (by omega)
      have z12:wr.cell? ⟨g,o+k * 17+12,none⟩=some (sla op.fa op.f.lines.length op.fc):=hc 12 (by omega)
      have z13:wr.cell? ⟨g,o+k * 17+13,none⟩=some (.int .i64 op.c1):=hc 13 (by omega)
      have z14:wr.cell? ⟨g,o+k * 17+14,none⟩=some (.int .i64 op.c2):=hc 14 (by omega)
      have z15:wr.cell? ⟨g,o+k * 17+15,none⟩=some (.int .i64 op.c3):=hc 15 (by omega)
      have z16:wr.cell? ⟨g,o+k * 17+16,none⟩=some (.int .i64 op.a):=hc 16 (by omega)
      clear hc hl
      rcases Int.lt_or_le op.kind least with h1 | h1
      · go_wp2
        go_roundw
        case rel =>
          first
          | exact ⟨k+1,by omega,by go_num,HI.out.same⟩
          | ((repeat apply Exists.intro);refine ⟨?_,rfl⟩;exact ⟨k+1,by omega,by go_num,HI.out.same⟩)
        case measure=>simp [intOf];omega
      rcases Int.lt_or_le last op.kind with h2 | h2
      · go_wp2
        go_roundw
        case rel =>
          first
          | exact ⟨k+1,by omega,by go_num,HI.out.same⟩
          | ((repeat apply Exists.intro);refine ⟨?_,rfl⟩;exact ⟨k+1,by omega,by go_num,HI.out.same⟩)
        case measure=>simp [intOf];omega
      obtain ⟨n,gh,cp,H,gp,np,cpp,P,hn,hw,hps,h6,hg,hgp,hb⟩:=HI.out
      have hbk:bd * k≤bd * ops.length:=Nat.mul_le_mul_left bd hk
      have hn9:n≤95000000:=Nat.le_trans hn (Nat.le_trans hbk HBD.out)
      have HNN:=hid hn
      clear hn hbk
      have HST:=hid (HSO.out h1 h2 wr w.heap.size gh n cp H gp np cpp P hw hps h6 hn9 HLN.out)
      have HG:=hid hg
      have HGP:=hid hgp
      have HB:=hid hb
      clear hw hps hg hgp hb HSO
      go_wp2_with fail
      refine HST.out.mono ?_
      rintro e y ⟨rfl,m,hm,hst⟩
      have HL:=hid hst
      have HW':=hid hst.ex
      clear hst
      obtain ⟨gh',cap',H',gp',np',cp',P',W',_⟩:=HW'.out
      have HW':=hid W'
      clear W'
      go_wp2_with fail
      refine (HW'.out.looks (by omega)).mono ?_
      rintro e z ⟨rfl,hbz⟩
      have HBZ:=hid hbz
      clear hbz
      go_wp2
      go_roundw
      case rel =>
        exact ⟨k+1,by omega,by go_num,HL.out.played HKS HNN.out hm HG.out HGP.out HB.out HBZ.out⟩
      case measure=>simp [intOf];omega
    · go_wp2
      go_ret
      exact ⟨rfl,HI.out.below⟩
theorem sum_at (a:Option Addr) (n cap:Nat) (l:List UInt8) (w:World) (hl:BytesIn w a l) (e:l.length=n) (hn:l.length≤100000000) :
    Calls Tryz.prog 117 #[.slice a n cap] w fun e w'=>e=.returned (.int .u16 (chk l:Int))∧w'=w:=by subst e;exact sum_any a cap l w hl hn
theorem u8_beq (x:UInt8) (m:Nat) (i:Int) (hm:m < 256) (hi:i=m):(x == UInt8.ofNat m)=decide ((x.toNat:Int)=i):=by
  subst hi
  rw [Bool.eq_iff_iff,beq_iff_eq,decide_eq_true_eq,← UInt8.toNat_inj,UInt8.toNat_ofNat',Nat.mod_eq_of_lt (by omega)]
  omega
def Stripped (w:World) (a:Option Addr) (cap:Nat) (b:List UInt8) (e:Ending) (w':World):Prop :=
  e=.returned (.tuple #[if stripOk b then .slice a (b.length - 2) cap else .slice none 0 0,.bool (stripOk b)])∧w'=w
theorem stripped_no {w:World} {a:Option Addr} {cap:Nat} {b:List UInt8} (h:stripOk b=false):Stripped w a cap b (.returned (.tuple #[.slice none 0 0,.bool false])) w:=⟨by rw [h];rfl,rfl⟩
theorem stripped_yes {w:World} {a:Option Addr} {cap n:Nat} {b:List UInt8} (h:stripOk b=true) (e:b.length=n+2):Stripped w a cap b (.returned (.tuple #[.slice a n cap,.bool true])) w:=⟨by rw [h,e];rfl,rfl⟩
theorem strip_go (a:Option Addr) (cap:Nat) (b:List UInt8) (w:World) (hb:BytesIn w a b) (hn:b.length≤100000000) (hcap:b.length≤cap) :
    Calls Tryz.prog 73 #[sla a b.length cap] w (Stripped w a cap b):=by
  have HB:=hid hb
  clear hb
  unfold sla
  rcases Nat.lt_or_ge b.length 2 with h2 | h2
  · have HN:Hid (stripOk b=false):=by show _=_;unfold stripOk;rw [show decide (2≤b.length)=false from by simp;omega];rfl
    go_enter Tryz.func73,Tryz.ntmps73
    go_wp2
    go_ret2
    exact stripped_no HN.out
  · obtain ⟨g,o,rfl,hx0⟩:=HB.out 0 (by omega)
    clear hx0
    obtain ⟨n,hbl⟩:∃ n,b.length=n+2:=⟨b.length - 2,by omega⟩
    have c0:=HB.out.cell n (by omega)
    have c1:=HB.out.cell (n+1) (by omega)
    have HS:Hid (stripOk b=((b.getD n 0 == UInt8.ofNat (chk (b.take n) % 256)) && (b.getD (n+1) 0 == UInt8.ofNat (chk (b.take n) / 256)))):=by
      show _=_
      unfold stripOk
      rw [hbl]
      simp
    have HT:Hid (BytesIn w (some ⟨g,o,none⟩) (b.take n)∧(b.take n).length=n):=⟨HB.out.take n,by rw [List.length_take];omega⟩
    have HBL:=hid hbl
    rw [hbl] at hn hcap ⊢
    clear h2 hbl HB
    have hcs:=chk_lt (b.take n)
    generalize b.getD n 0=x at c0 HS
    generalize b.getD (n+1) 0=y at c1 HS
    have hx:x.toNat < 256:=x.toNat_lt
    have hy:y.toNat < 256:=y.toNat_lt
    have hi0:(0:Int)≤(n:Int):=by omega
    have hi1:(n:Int)≤(cap:Int):=by omega
    go_enter Tryz.func73,Tryz.ntmps73
    go_wp2_with fail
    refine (sum_at _ n cap (b.take n) _ HT.out.1 HT.out.2 (by have:=HT.out.2;omega)).mono ?_
    rintro e w1 ⟨rfl,rfl⟩
    generalize chk (b.take n)=s at HS hcs
    have e0:Hid ((x == UInt8.ofNat (s % 256))=decide ((x.toNat:Int)=(s:Int) % 256)):=u8_beq x (s % 256) (s % 256:Int) (by omega) (by omega)
    have e1:Hid ((y == UInt8.ofNat (s / 256))=decide ((y.toNat:Int)=(s:Int) / 256)):=u8_beq y (s / 256) (s / 256:Int) (by omega) (by omega)
    go_wp2
    · have hq:((y.toNat:Int) != (s:Int) / 256)=true:=by assumption
      go_ret2
      exact stripped_no (by rw [HS.out,e1.out];simp only [bne_iff_ne,ne_eq] at hq;simp [hq])
    · have hp:(x.toNat:Int)=(s:Int) % 256:=by assumption
      have hq:((y.toNat:Int) != (s:Int) / 256)=false:=by assumption
      go_ret2
      exact stripped_yes (by rw [HS.out,e0.out,e1.out];simp only [bne_eq_false_iff_eq] at hq;simp [hp,hq]) HBL.out
    · have hp:¬ (x.toNat:Int)=(s:Int) % 256:=by assumption
      go_ret2
      exact stripped_no (by rw [HS.out,e0.out];simp [hp])
def FirstRet (w0 w:World) (b:List UInt8) (e:Ending) (w':World):Prop :=
  w'=w∧((recOf b=none∧e=.returned (.tuple #[.slice none 0 0,.int .i64 0,.bool false])) ∨
    ∃ inner n a' cap',recOf b=some (inner,n)∧e=.returned (.tuple #[.slice a' inner.length cap',.int .i64 n,.bool true])∧BytesIn w0 a' inner∧inner.length≤cap'∧inner.length≤256)
theorem strip_at2 (a:Option Addr) (n cap:Nat) (b:List UInt8) (w:World) (hb:BytesIn w a b) (e:b.length=n) (hn:b.length≤100000000) (hcap:b.length≤cap) :
    Calls Tryz.prog 73 #[.slice a n cap] w (Stripped w a cap b):=by subst e;exact strip_go a cap b w hb hn hcap
theorem first_go (a:Option Addr) (n cap:Nat) (b:List UInt8) (w0 w:World) (hb:BytesIn w0 a b) (hw:Below w0.heap.size w0 w) (hbl:b.length=n) (hn:b.length≤100000000) (hcap:b.length≤cap) :
    Calls Tryz.prog 129 #[.slice a n cap] w (FirstRet w0 w b):=by
  have HB0:=hid hb
  have HB:=hid (hb.below hw)
  clear hb hw
  have HNO:Hid (recOf b=none→FirstRet w0 w b (.returned (.tuple #[.slice none 0 0,.int .i64 0,.bool false])) w):=fun h=>⟨rfl,.inl ⟨h,rfl⟩⟩
  by_cases h0:n=0
  · have HR:Hid (recOf b=none):=by show _=_;unfold recOf;rw [if_pos (by omega)]
    subst h0
    go_enter Tryz.func129,Tryz.ntmps129
    go_wp2
    go_ret3
    exact HNO.out HR.out
  obtain ⟨g,o,rfl,hx0⟩:=HB.out 0 (by omega)
  clear hx0
  have c0:=HB.out.cell 0 (by omega)
  rw [Nat.add_zero] at c0
  have HZ:Hid (recOf b=if b.length < (b.getD 0 0).toNat+3 then none else if stripOk (b.take ((b.getD 0 0).toNat+3)) then some ((b.drop 1).take (b.getD 0 0).toNat,(b.getD 0 0).toNat+3) else none):=by show _=_;unfold recOf;rw [if_neg (by omega)]
  generalize b.getD 0 0=z at c0 HZ
  have hz:z.toNat < 256:=z.toNat_lt
  have wz:=wrap_byte z
  have hi0:(0:Int) < (n:Int):=by omega
  have hz0:((n:Int) == 0)=false:=beq_eq_false_iff_ne.2 (by omega)
  have hn0:0 < n:=by omega
  have wz1:IntKind.i64.wrap (1+(z.toNat:Int))=1+(z.toNat:Int):=by rw [IntWalk.i64_left,IntWalk.wrap64_in _ (by omega)]
  have wz3:IntKind.i64.wrap (1+(z.toNat:Int)+2)=((z.toNat+3:Nat):Int):=by rw [IntWalk.i64_left,IntWalk.wrap64_in _ (by omega)];omega
  have e3:1+(z.toNat:Int)+2=((z.toNat+3:Nat):Int):=by omega
  rcases Nat.lt_or_ge n (z.toNat+3) with hl | hl
  · have HR:Hid (recOf b=none):=by show _=_;rw [HZ.out,if_pos (by omega)]
    have hl2:(n:Int) < ((z.toNat+3:Nat):Int):=by omega
    go_enter Tryz.func129,Tryz.ntmps129
    go_wp2
    go_ret3
    exact HNO.out HR.out
  · have hl2:¬ ((n:Int) < ((z.toNat+3:Nat):Int)):=by omega
    have HR:Hid (recOf b=if stripOk (b.take (z.toNat+3)) then some ((b.drop 1).take z.toNat,z.toNat+3) else none):=by show _=_;rw [HZ.out,if_neg (by omega)]
    have HT:Hid (BytesIn w (some ⟨g,o,none⟩) (b.take (z.toNat+3))∧(b.take (z.toNat+3)).length=z.toNat+3):=⟨HB.out.take _,by rw [List.length_take];omega⟩
    have hq1:(0:Int)≤((z.toNat+3:Nat):Int):=by omega
    have hq2:((z.toNat+3:Nat):Int)≤(cap:Int):=by omega
    go_enter Tryz.func129,Tryz.ntmps129
    go_wp2_with fail
    refine (strip_at2 _ (z.toNat+3) cap (b.take (z.toNat+3)) _ HT.out.1 HT.out.2 (by have:=HT.out.2;omega) (by have:=HT.out.2;omega)).mono ?_
    rintro e w1 ⟨rfl,hw1⟩
    rw [hw1,HT.out.2,show z.toNat+3 - 2=z.toNat+1 from by omega]
    clear hw1 w1
    cases hs:stripOk (b.take (z.toNat+3))
    · rw [hs] at HR
      simp only [Bool.false_eq_true,if_false]
      go_wp2
      go_ret3
      exact HNO.out HR.out
    · rw [hs] at HR
      have HIL:Hid (((b.drop 1).take z.toNat).length=z.toNat):=by show _=_;rw [List.length_take,List.length_drop];omega
      have HBI:Hid (BytesIn w0 (some ⟨g,o+1,none⟩) ((b.drop 1).take z.toNat)):=(HB0.out.drop 1).take _
      have hc1:¬ cap=1:=by omega
      have hq3:(1:Int)≤((z.toNat+1:Nat):Int):=by omega
      have hq4:(1:Int)≤(cap:Int):=by omega
      have hq5:((z.toNat+1:Nat):Int)≤(cap:Int):=by omega
      simp only [if_true]
      go_wp2
      go_ret3
      refine ⟨rfl,.inr ⟨_,_,_,_,HR.out,?_,HBI.out,by rw [HIL.out];exact Nat.le_sub_of_add_le (show z.toNat+1≤cap by omega),by rw [HIL.out];omega⟩⟩
      rw [HIL.out];rfl
end
section
open Go.RowKit
section
variable {P:Program} (w:World)
theorem run_appK (t ty:TypeId) (e:TypeId) (i:TypeInfo) (z:Value) (size bytes:Nat) (ht:P.underlying t=some (.slice e)) (hi:P.info? e=some i) (hz:i.zero=some z)
    (hsize:i.size=size) (hby:i.bytes=bytes) (hzs:z.cells.size=size)
    (b:Option Nat) (n c:Nat) (hown:OwnRow w e size b n c)
    (ad:Addr) (m cc:Nat) (news:List Value) (hl:news.length=m * size) (hnews:∀ j u,news[j]?=some u→w.cell? (ad.add j)=some u) (h1:∀ u ∈ news,u.oneCell'=true)
    (hm:0 < m) (hbytes:(n+m) * bytes≤140737488355328) (h63:n+m≤140737488355328) :
    ∃ g c' w',(Builtin.append_ #[t,t] ty #[sl b n c,.slice (some ad) m cc]).run P w=.ok (.slice (some ⟨g,0,none⟩) (n+m) c') w'∧AppPost w w' e size b n m news g c'∧OwnRow w' e size b n c:=by
  obtain ⟨g,c',w',hr,hP⟩:=run_app (P:=P) w t ty e i z size bytes ht hi hz hsize hby hzs b n c hown ad m cc news hl hnews h1 hm hbytes h63
  refine ⟨g,c',w',hr,hP,?_⟩
  subst hsize
  rcases hown with ⟨rfl,rfl,rfl⟩ | ⟨g0,cur,rfl,hg,hcs,hnc,hcm⟩
  · exact .inl ⟨rfl,rfl,rfl⟩
  · by_cases hroom:n+m≤c
    · have hns:n * i.size+news.length=(n+m) * i.size:=by rw [hl,← Nat.add_mul]
      have hfit:n * i.size+news.length≤cur.size:=by rw [hns,hcs];exact Nat.mul_le_mul_right _ hroom
      have h2:=run_append_room (P:=P) w t ty e i ht hi g0 n c cur hg ad m cc news hl hnews h1 hroom hfit
      have h3:=h2.symm.trans hr
      simp only [Result.ok.injEq,Value.slice.injEq,Option.some.injEq,Addr.mk.injEq] at h3
      obtain ⟨⟨⟨e1,_⟩,_,e2⟩,_⟩:=h3
      subst e1
      subst e2
      rcases hP.own with ⟨h,_⟩ | ⟨g1,cur1,h,q1,q2,q3,q4⟩
      · cases h
      · cases h;exact .inr ⟨_,cur1,rfl,q1,q2,hnc,q4⟩
    · subst hby
      have hxl:(cur.toList.take (n * i.size)).length=n * i.size:=by
        rw [List.length_take,Array.length_toList,hcs];have:=Nat.mul_le_mul_right i.size hnc;omega
      have holds:∀ j u,(cur.toList.take (n * i.size))[j]?=some u→w.cell? ((⟨g0,0,none⟩:Addr).add j)=some u:=fun j u hu=>by
        have hj:j < n * i.size:=by
          rcases Nat.lt_or_ge j (n * i.size) with h | h
          · exact h
          · rw [List.getElem?_eq_none (by omega)] at hu;cases hu
        rw [addr_add,Nat.zero_add,cell_of_heap hg]
        rw [List.getElem?_take_of_lt hj,Array.getElem?_toList] at hu
        exact hu
      have h2:=run_append_grow (P:=P) w t ty e i z ht hi hz ⟨g0,0,none⟩ n c _ hxl holds ad m cc news hl hnews (by omega) (by omega) (growslice_fits (by omega) hbytes)
      have h3:=h2.symm.trans hr
      simp only [Result.ok.injEq] at h3
      rw [← h3.2]
      exact OwnRow.touch (T:=fun _=>False) (.inr ⟨g0,cur,rfl,hg,hcs,hnc,hcm⟩) (((Touch.refl _ w).drew).alloc _) (fun _ _ h=>h)
theorem wpList_appK {ops:Array Oper} {rest:List Oper} {o:Oper} {a:Act} {Q:Exit→Act→World→Prop} (hgd:o.guard=none) (s x:Operand) (t:TypeId)
    (ho:o.op=.call { callee:=.builtin .append,args:=#[s,x],argTypes:=#[t,t] })
    (e:TypeId) (i:TypeInfo) (z:Value) (size bytes:Nat) (ht:P.underlying t=some (.slice e)) (hi:P.info? e=some i) (hz:i.zero=some z)
    (hsize:i.size=size) (hby:i.bytes=bytes) (hzs:z.cells.size=size)
    (b:Option Nat) (n c:Nat) (hs:a.eval s=sl b n c) (hown:OwnRow w e size b n c)
    (ad:Addr) (m cc:Nat) (news:List Value) (hx:a.eval x=.slice (some ad) m cc) (hl:news.length=m * size) (hnews:∀ j u,news[j]?=some u→w.cell? (ad.add j)=some u) (h1:∀ u ∈ news,u.oneCell'=true)
    (hm:0 < m) (hbytes:(n+m) * bytes≤140737488355328) (h63:n+m≤140737488355328)
    (h:∀ g c' w',AppPost w w' e size b n m news g c'→OwnRow w' e size b n c→wpList P ops Q rest (a.put o.dst (.slice (some ⟨g,0,none⟩) (n+m) c')) w'):wpList P ops Q (o :: rest) a w:=by
  refine wpList_plain hgd fun _ hK=>?_
  obtain ⟨g,c',w',hr,h2,h3⟩:=run_appK (P:=P) w t o.type e i z size bytes ht hi hz hsize hby hzs b n c hown ad m cc news hl hnews h1 hm hbytes h63
  unfold Oper.wp execOp
  simp only [ho,resolve,invoke,builtin,Sem.run_bind,Sem.run_pure,Result.andThen_ok,List.map_toArray,List.map_cons,List.map_nil,hs,hx,hr]
  exact hK _ _ (h g c' w' h2 h3)
end
end
section
open Go.RowKit
attribute [local go_sem ↓] Go.wp_at_zero Go.wp_at_succ
def fb (k:Int):Int :=
  if k=1 then 32 else if k=2 then 47 else if k=3 then 7 else if k=4 then 11 else if k=5 then 3 else if k=8 then 3 else if k=6 then 91 else if k=7 then 75 else if k=9 then 38 else 0
theorem fieldsOf_go (k:Int) (w:World):Calls Tryz.prog 69 #[.int .i64 k] w fun e w'=>e=.returned (.int .i64 (fb k))∧w'=w:=by
  go_enter Tryz.func69,Tryz.ntmps69
  go_wp2
  all_goals (go_ret;refine ⟨ret_int ?_,rfl⟩;unfold fb;simp_all)
def fitsG (has n most:Int):Bool:=if has=0 then n == 0 else decide (0≤n) && decide (n≤most)
theorem fits_go (has n most:Int) (w:World):Calls Tryz.prog 113 #[.int .i64 has,.int .i64 n,.int .i64 most] w fun e w'=>e=.returned (.bool (fitsG has n most))∧w'=w:=by
  go_enter Tryz.func113,Tryz.ntmps113
  go_wp2
  all_goals (go_ret;refine ⟨ret_bool ?_,rfl⟩;unfold fitsG;simp_all;try omega)
def leastG (k:Int):Int:=if k=2∨k=9 then 1 else 0
theorem leastPlace_go (k:Int) (w:World):Calls Tryz.prog 114 #[.int .i64 k] w fun e w'=>e=.returned (.int .i64 (leastG k))∧w'=w:=by
  go_enter Tryz.func114,Tryz.ntmps114
  go_wp2
  all_goals (go_ret;refine ⟨ret_int ?_,rfl⟩;unfold leastG;simp_all)
def fitsLineG (f:Fr) (has:Int):Bool:=if has=0 then f.line.isZero else !(f.kind == 9 && !f.line.s.isEmpty) && f.line.ok
theorem fitsLine_go (f:Fr) (a:Option Addr) (cap:Nat) (has:Int) (w:World):Calls Tryz.prog 115 #[f.val a cap,.int .i64 has] w fun e w'=>e=.returned (.bool (fitsLineG f has))∧Below w.heap.size w w':=by
  obtain ⟨kind,frm,view,place,agreed,last,⟨c,t,s⟩,ls⟩:=f
  unfold Fr.val sla
  dsimp only
  have HO:Hid (∀ h,fitsLineG ⟨kind,frm,view,place,agreed,last,⟨c,t,s⟩,ls⟩ h=if h=0 then (Ln.mk c t s).isZero else !(kind == 9 && !s.isEmpty) && (Ln.mk c t s).ok):=fun h=>rfl
  go_enter Tryz.func115,Tryz.ntmps115
  go_wp2_with (go_at_call 160;refine (rightLine_any ⟨c,t,s⟩ _).mono ?_;rintro e w2 ⟨rfl,hb2⟩;have HB2:=hid hb2;clear hb2)
  all_goals
    go_ret
    refine ⟨ret_bool ?_,?_⟩
  all_goals (try first | exact (Below.refl _ _).alloc (Nat.le_refl _) _ | exact ((Below.refl _ _).alloc (Nat.le_refl _) _).trans (HB2.out.mono (by simp)))
  all_goals (rw [HO.out];simp_all [Ln.isZero])
def fitsLinesG (f:Fr) (has:Int):Bool:=if has=0 then f.lines.isEmpty else linesOk f.lines
theorem fitsLines_go (f:Fr) (a:Option Addr) (cap:Nat) (has:Int) (w:World) (hl:LinesAt w a f.lines) (hn:f.lines.length≤100000000) (hcap:f.lines.length≤cap):Calls Tryz.prog 116 #[f.val a cap,.int .i64 has] w fun e w'=>e=.returned (.bool (fitsLinesG f has))∧Below w.heap.size w w':=by
  obtain ⟨kind,frm,view,place,agreed,last,⟨c,t,s⟩,ls⟩:=f
  have HL:=hid hl
  dsimp only at HL hn hcap
  clear hl
  unfold Fr.val sla
  dsimp only
  have HO:Hid (∀ h,fitsLinesG ⟨kind,frm,view,place,agreed,last,⟨c,t,s⟩,ls⟩ h=if h=0 then ls.isEmpty else linesOk ls):=fun h=>rfl
  go_enter Tryz.func116,Tryz.ntmps116
  go_wp2_with (go_at_call 161;refine (right_lines a cap ls _ (HL.out.alloc _) hn hcap).mono ?_;rintro e w2 ⟨rfl,hb2⟩;have HB2:=hid hb2;clear hb2)
  all_goals
    go_ret
    refine ⟨ret_bool ?_,?_⟩
  all_goals (try first | exact (Below.refl _ _).alloc (Nat.le_refl _) _ | exact ((Below.refl _ _).alloc (Nat.le_refl _) _).trans (HB2.out.mono (by simp)))
  all_goals (rw [HO.out];have:=len_isEmpty ls;simp_all)
end
section
def fallOf (ops:Array Oper) (o:Oper) (a:Act):Option Value :=
  if Region.wanted o (yielded ops a.tmps) then
    match o.op with
    | .move (.tmp t)=>match a.tmps[t]? with
      | some (.bool false)=>some (.bool false)
      | _=>none
    | .assign (.tmp t)=>match a.tmps[t]? with
      | some (.bool false)=>some (.bool false)
      | _=>none
    | .pick (.tmp t) _ (.const (.bool false))=>match a.tmps[t]? with
      | some (.bool false)=>some (.bool false)
      | _=>none
    | _=>none
  else some undef
def fallsOk (md:Region.Mode) (ops:Array Oper):List (Nat × Nat × Bool)→Array Bool→Act→Bool
  | [],_,_=>true
  | (i,d,b) :: is,listed,a =>
    match ops[i]? with
    | none=>false
    | some o=>Region.free md ops listed i && (Region.ready md ops listed).contains i && (match o.dst with | some d'=>d' == d | none=>false) &&
      (match fallOf ops o a with | some (.bool false)=>b | some _=>!b && !Region.wanted o (yielded ops a.tmps) | none=>false) &&
      fallsOk md ops is (listed.setIfInBounds i true) (a.put (some d) (if b then .bool false else undef))
def fallsAct:List (Nat × Nat × Bool)→Act→Act
  | [],a=>a
  | (_,d,b) :: is,a=>fallsAct is (a.put (some d) (if b then .bool false else undef))
def fallsList:List (Nat × Nat × Bool)→Array Bool→Array Bool
  | [],l=>l
  | (i,_,_) :: is,l=>fallsList is (l.setIfInBounds i true)
theorem fall_yields {P:Program} {ops:Array Oper} {o:Oper} {a:Act} {v:Value} (h:fallOf ops o a=some v):Yields P ops o v a:=by
  unfold fallOf at h
  split at h
  · rename_i hw
    have key:∀ t:Tmp,a.tmps[t]?=some (.bool false)→a.eval (.tmp t)=.bool false:=fun t e=>by simp [Act.eval,e]
    refine Or.inl ⟨hw,fun w=>?_⟩
    split at h
    · rename_i t ho
      split at h
      · rename_i e;cases h;simp [execOp,ho,key t e]
      · cases h
    · rename_i t ho
      split at h
      · rename_i e;cases h;simp [execOp,ho,key t e]
      · cases h
    · rename_i t x ho
      split at h
      · rename_i e;cases h;simp [execOp,ho,Act.eval,e,asBool]
      · cases h
    · cases h
  · rename_i hw
    cases h
    exact Or.inr ⟨by simpa using hw,rfl⟩
theorem wpAny_falls {P:Program} {md:Region.Mode} {ops:Array Oper} {Q:Exit→Act→World→Prop} (hs:Region.noSelect ops=true) (hQ:∀ c a d v w,Q (.panic c) (a.put d v) w→Q (.panic c) a w) :
    ∀ (is:List (Nat × Nat × Bool)) (fuel F:Nat) (listed:Array Bool) (a:Act) (w:World),fallsOk md ops is listed a=true→F=is.length+fuel→wpAny P md ops Q fuel (fallsList is listed) (fallsAct is a) w→wpAny P md ops Q F listed a w:=by
  intro is
  induction is with
  | nil=>intro fuel F listed a w _ hF h;rw [hF,List.length_nil,Nat.zero_add];exact h
  | cons x is ih =>
    obtain ⟨i,d,b⟩:=x
    intro fuel F listed a w hk hF h
    unfold fallsOk at hk
    cases hi:ops[i]? with
    | none=>rw [hi] at hk;cases hk
    | some o =>
      rw [hi] at hk
      simp only [Bool.and_eq_true] at hk
      obtain ⟨⟨⟨⟨h1,h2⟩,h3⟩,h4⟩,h5⟩:=hk
      have e:F=is.length+fuel+1:=by rw [hF,List.length_cons];omega
      have hd:o.dst=some d:=by
        split at h3
        · rename_i d' e;rw [e];simpa using h3
        · cases h3
      have hy:Yields P ops o (if b then .bool false else undef) a:=by
        split at h4
        · rename_i e;rw [h4,if_pos rfl];exact fall_yields e
        · rename_i v e _
          simp only [Bool.and_eq_true,Bool.not_eq_true'] at h4
          rw [h4.1]
          exact Or.inr ⟨h4.2,rfl⟩
        · cases h4
      rw [e]
      exact wpAny_take hi hs h1 h2 (fun c a w=>hQ c a _ _ w) hy (by rw [hd];exact ih fuel _ _ _ w h5 rfl h)
theorem wpAnyH_falls {P:Program} {md:Region.Mode} {ops:Array Oper} {Q:Exit→Act→World→Prop} {S:World→Prop} (hs:Region.noSelect ops=true) (hQ:∀ c a d v w,Q (.panic c) (a.put d v) w→Q (.panic c) a w) :
    ∀ (is:List (Nat × Nat × Bool)) (fuel F:Nat) (listed:Array Bool) (a:Act) (w:World),S w→fallsOk md ops is listed a=true→F=is.length+fuel→wpAnyH P md ops Q S fuel (fallsList is listed) (fallsAct is a) w→wpAnyH P md ops Q S F listed a w:=by
  intro is
  induction is with
  | nil=>intro fuel F listed a w _ _ hF h;rw [hF,List.length_nil,Nat.zero_add];exact h
  | cons x is ih =>
    obtain ⟨i,d,b⟩:=x
    intro fuel F listed a w hS hk hF h
    unfold fallsOk at hk
    cases hi:ops[i]? with
    | none=>rw [hi] at hk;cases hk
    | some o =>
      rw [hi] at hk
      simp only [Bool.and_eq_true] at hk
      obtain ⟨⟨⟨⟨h1,h2⟩,h3⟩,h4⟩,h5⟩:=hk
      have e:F=is.length+fuel+1:=by rw [hF,List.length_cons];omega
      have hd:o.dst=some d:=by
        split at h3
        · rename_i d' e;rw [e];simpa using h3
        · cases h3
      have hy:Yields P ops o (if b then .bool false else undef) a:=by
        split at h4
        · rename_i e;rw [h4,if_pos rfl];exact fall_yields e
        · rename_i v e _
          simp only [Bool.and_eq_true,Bool.not_eq_true'] at h4
          rw [h4.1]
          exact Or.inr ⟨h4.2,rfl⟩
        · cases h4
      rw [e]
      exact wpAnyH_take hi hs h1 h2 (fun c a w=>hQ c a _ _ w) hy.yieldsIf hS (by rw [hd];exact ih fuel _ _ _ w hS h5 rfl h)
end
end Go.Proofs.YtolififimldmlaaGreat
