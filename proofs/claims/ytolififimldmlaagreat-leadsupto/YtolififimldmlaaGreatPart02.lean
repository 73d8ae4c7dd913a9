import Derived.Test.YtolififimldmlaaGreatPart01
set_option linter.unusedVariables false
set_option linter.unusedSimpArgs false
set_option maxRecDepth 100000
set_option maxHeartbeats 16000000
namespace Go.Proofs.YtolififimldmlaaGreat
section
open Go.RowKit
attribute [local go_sem ↓] Go.wp_at_zero Go.wp_at_succ
def Ln.cells (l:Ln):List Value:=[.int .i64 l.c,.int .i64 l.t,.string ⟨l.s.toArray⟩]
def sla (a:Option Addr) (n c:Nat):Value:=.slice a n c
def LinesAt (w:World) (a:Option Addr) (ls:List Ln):Prop :=
  ∀ j (h:j < ls.length),∃ g o,a=some ⟨g,o,none⟩∧w.cell? ⟨g,o+j * 3,none⟩=some (.int .i64 ls[j].c)∧w.cell? ⟨g,o+j * 3+1,none⟩=some (.int .i64 ls[j].t)∧w.cell? ⟨g,o+j * 3+2,none⟩=some (.string ⟨ls[j].s.toArray⟩)
theorem LinesAt.below {w w':World} {a:Option Addr} {ls:List Ln} (h:LinesAt w a ls) (hb:Below w.heap.size w w'):LinesAt w' a ls:=fun j hj=>by
  obtain ⟨g,o,e,h0,h1,h2⟩:=h j hj
  exact ⟨g,o,e,(hb.cell (World.block_lt_of_cell? _ _ h0)).trans h0,(hb.cell (World.block_lt_of_cell? _ _ h1)).trans h1,(hb.cell (World.block_lt_of_cell? _ _ h2)).trans h2⟩
theorem isLine_any (l:Ln) (w:World):Calls Tryz.prog 143 #[.agg #[.int .i64 l.c,.int .i64 l.t,.string ⟨l.s.toArray⟩]] w fun e w'=>e=.returned (.bool l.ok)∧Below w.heap.size w w':=by
  obtain ⟨c,t,s⟩:=l
  dsimp only
  go_enter Tryz.func143,Tryz.ntmps143
  go_wp2
  all_goals (go_ret;refine ⟨ret_bool ?_,(Below.refl _ _).alloc (Nat.le_refl _) _⟩;rw [Bool.eq_iff_iff];simp [Ln.ok];omega)
theorem turn_any (a:Option Addr) (cap:Nat) (ls:List Ln) (c:Int) (w:World) (hl:LinesAt w a ls) (hn:ls.length≤100000000) :
    Calls Tryz.prog 149 #[sla a ls.length cap,.int .i64 c] w fun e w'=>e=.returned (.int .i64 (turnOf ls c))∧w'=w:=by
  have HL:=hid hl
  clear hl
  unfold sla
  go_enter Tryz.func149,Tryz.ntmps149
  go_wp2
  go_loop [5,6] (fun n i=>∃ k:Nat,k≤ls.length∧i=.int .i64 k∧n=.int .i64 (turnOf (ls.take k) c)) (fun _ i=>ls.length - (intOf i).toNat)
  case atStart=>exact ⟨0,Nat.zero_le _,rfl,rfl⟩
  case round =>
    obtain ⟨k,hk,rfl,rfl⟩:=hrel
    by_cases hlt:k < ls.length
    · obtain ⟨g,o,rfl,h0,h1,h2⟩:=HL.out k hlt
      have HS:Hid (turnOf (ls.take (k+1)) c=if ls[k].c=c∧turnOf (ls.take k) c < ls[k].t then ls[k].t else turnOf (ls.take k) c):=by
        rw [take_snoc ls k hlt];exact turnOf_snoc _ _ _
      generalize turnOf (ls.take k) c=T at HS ⊢
      generalize ls[k]=x at HS h0 h1 h2
      go_wp2
      all_goals
        go_round
        case rel=>exact ⟨k+1,by omega,by go_num,by rw [HS.out];simp_all <;> omega⟩
        case measure=>simp [intOf];omega
    · go_wp2
      go_ret
      exact ⟨ret_int (by rw [List.take_of_length_le (by omega)]),rfl⟩
theorem has_any (l:List UInt8) (c:UInt8) (w:World) (hn:l.length≤100000000) :
    Calls Tryz.prog 93 #[.string ⟨l.toArray⟩,.int .u8 c.toNat] w fun e w'=>e=.returned (.bool (memB l c))∧w'=w:=by
  go_enter Tryz.func93,Tryz.ntmps93
  go_wp2
  go_loop [5] (fun i=>∃ k:Nat,k≤l.length∧i=.int .i64 k∧memB (l.take k) c=false) (fun i=>l.length - (intOf i).toNat)
  case atStart=>exact ⟨0,Nat.zero_le _,rfl,rfl⟩
  case round =>
    obtain ⟨k,hk,rfl,hno⟩:=hrel
    have HN:=hid hno
    clear hno
    by_cases hlt:k < l.length
    · go_wp2
      · have h:((l[k].toNat:Int) == (c.toNat:Int))=true:=by assumption
        go_ret
        exact ⟨ret_bool (memB_hit l c k hlt (by simpa using h)).symm,rfl⟩
      · have h:((l[k].toNat:Int) == (c.toNat:Int))=false:=by assumption
        go_round
        case rel=>exact ⟨k+1,by omega,by go_num,memB_miss l c k hlt (by simpa using h) HN.out⟩
        case measure=>simp [intOf];omega
    · go_wp2
      go_ret
      exact ⟨ret_bool (by have h:=HN.out;rw [List.take_of_length_le (by omega)] at h;exact h.symm),rfl⟩
theorem fields_any (k:Int) (w:World) (h1:1≤k) (h9:k≤9):Calls Tryz.prog 92 #[.int .i64 k] w fun e w'=>e=.returned (.string ⟨(fieldStr k).toArray⟩)∧Below w.heap.size w w':=by
  have:k=1∨k=2∨k=3∨k=4∨k=5∨k=6∨k=7∨k=8∨k=9:=by omega
  clear h1 h9
  rcases this with rfl | rfl | rfl | rfl | rfl | rfl | rfl | rfl | rfl
  all_goals
    go_enter Tryz.func92,Tryz.ntmps92
    go_wp2
    go_ret
    exact ⟨rfl,(Below.refl _ _).alloc (Nat.le_refl _) _⟩
theorem fits_any (is:Bool) (n least most:Int) (w:World):Calls Tryz.prog 142 #[.bool is,.int .i64 n,.int .i64 least,.int .i64 most] w fun e w'=>e=.returned (.bool (fitsB is n least most))∧w'=w:=by
  cases is
  all_goals
    go_enter Tryz.func142,Tryz.ntmps142
    go_wp2
  all_goals (go_ret;refine ⟨ret_bool ?_,rfl⟩;rw [Bool.eq_iff_iff];simp [fitsB];try omega)
theorem bcell {W w1:World} (hb:Below W.heap.size W w1):(∀ b o,b < W.heap.size→w1.cell? ⟨b,o,none⟩=W.cell? ⟨b,o,none⟩)∧(∀ b o,b < W.heap.size→w1.frozen? ⟨b,o,none⟩=W.frozen? ⟨b,o,none⟩) :=
  ⟨fun b o h=>hb.cell (p:=⟨b,o,none⟩) h,fun b o h=>hb.frozen (p:=⟨b,o,none⟩) h⟩
theorem LinesAt.take {w:World} {a:Option Addr} {ls:List Ln} (h:LinesAt w a ls) (k:Nat):LinesAt w a (ls.take k):=fun j hj=>by
  have hj':j < ls.length:=by simp at hj;omega
  obtain ⟨g,o,e,h0,h1,h2⟩:=h j hj'
  exact ⟨g,o,e,by simpa using h0,by simpa using h1,by simpa using h2⟩
theorem LinesAt.mono {w w':World} {B:Nat} {a:Option Addr} {ls:List Ln} (h:LinesAt w a ls) (hb:Below B w w') (hB:w.heap.size≤B):LinesAt w' a ls:=fun j hj=>by
  obtain ⟨g,o,e,h0,h1,h2⟩:=h j hj
  have q0:=World.block_lt_of_cell? _ _ h0
  dsimp only at q0
  exact ⟨g,o,e,(hb.cell (p:=⟨g,o+j * 3,none⟩) (by dsimp only;omega)).trans h0,(hb.cell (p:=⟨g,o+j * 3+1,none⟩) (by dsimp only;omega)).trans h1,(hb.cell (p:=⟨g,o+j * 3+2,none⟩) (by dsimp only;omega)).trans h2⟩
theorem turn_at (g o n cap:Nat) (ls:List Ln) (c:Int) (w:World) (hl:LinesAt w (some ⟨g,o,none⟩) ls) (hn:ls.length≤100000000) (e:ls.length=n) :
    Calls Tryz.prog 149 #[.slice (some ⟨g,o,none⟩) n cap,.int .i64 c] w fun e w'=>e=.returned (.int .i64 (turnOf ls c))∧w'=w:=by
  subst e;exact turn_any (some ⟨g,o,none⟩) cap ls c w hl hn
theorem areLines_any (a:Option Addr) (cap:Nat) (ls:List Ln) (w:World) (hl:LinesAt w a ls) (hn:ls.length≤100000000) (hcap:ls.length≤cap) :
    Calls Tryz.prog 144 #[sla a ls.length cap] w fun e w'=>e=.returned (.bool (linesOk ls))∧Below w.heap.size w w':=by
  have HL:=hid hl
  clear hl
  unfold sla
  go_enter Tryz.func144,Tryz.ntmps144
  go_wp2
  go_loopw [3] (fun i wr=>∃ k:Nat,k≤ls.length∧i=.int .i64 k∧linesRise ls k=true∧Below w.heap.size w wr) (fun i _=>ls.length - (intOf i).toNat)
  case atStart=>exact ⟨0,Nat.zero_le _,rfl,rfl,Below.refl _ _⟩
  case round =>
    obtain ⟨k,hk,rfl,hri,hb⟩:=hrel
    have HR:=hid hri
    have HB:=hid hb
    clear hri hb
    by_cases hlt:k < ls.length
    · have HLr:=hid (HL.out.below HB.out)
      obtain ⟨g,o,rfl,h0,h1,h2⟩:=HLr.out k hlt
      have HS:=hid (linesRise_succ ls k)
      have HF:=hid (fun e=>linesRise_false ls hlt e)
      have HX:Hid (riseAt ls k=(ls[k].ok && decide (turnOf (ls.take k) ls[k].c < ls[k].t))):=by unfold riseAt;rw [getD_at ls k _ hlt];rfl
      have HT:Hid ((ls.take k).length=k):=by show (ls.take k).length=k;simp;omega
      generalize hx:ls[k]=x at HX h0 h1 h2
      go_wp2_with fail
      refine (isLine_any x _).mono ?_
      rintro e w1 ⟨rfl,hb1⟩
      have HB1:=hid hb1
      have g0:w1.cell? ⟨g,o+k * 3,none⟩=_:=(hb1.cell (World.block_lt_of_cell? _ _ h0)).trans h0
      have g1:w1.cell? ⟨g,o+k * 3+1,none⟩=_:=(hb1.cell (World.block_lt_of_cell? _ _ h1)).trans h1
      clear hb1 h0 h1 h2 hx
      have HLt:=hid ((HLr.out.below HB1.out).take k)
      have hik:(0:Int)≤(k:Int):=by omega
      have hik2:(k:Int)≤(cap:Int):=by omega
      have hik3:(k:Int) < (ls.length:Int):=by omega
      go_wp2_with fail
      go_quiet ((go_at_call 149;exact Calls.quiet_of_same (turn_at g o k cap (ls.take k) x.c _ HLt.out (by have:=HT.out;omega) HT.out)))
      generalize turnOf (ls.take k) x.c=T at HX ⊢
      cases hok:x.ok
      · go_wp2
        go_ret
        exact ⟨ret_bool (HF.out (by rw [HX.out,hok];rfl)).symm,below_drewN (HB.out.trans (HB1.out.mono HB.out.size)) _⟩
      · by_cases hT:T < x.t
        · go_wp2
          go_roundw
          case rel =>
            exact ⟨k+1,by omega,by go_num,by rw [HS.out,HR.out,HX.out,hok];simp [hT],below_drewN (HB.out.trans (HB1.out.mono HB.out.size)) _⟩
          case measure=>simp [intOf];omega
        · have hT':x.t≤T:=by omega
          go_wp2
          go_ret
          exact ⟨ret_bool (HF.out (by rw [HX.out,hok];simp;omega)).symm,below_drewN (HB.out.trans (HB1.out.mono HB.out.size)) _⟩
    · go_wp2
      go_ret
      have e:k=ls.length:=by omega
      subst e
      refine ⟨ret_bool ?_,HB.out⟩
      unfold linesOk
      rw [HR.out,Bool.eq_iff_iff];simp;omega
theorem fieldStr_len (k:Int):(fieldStr k).length≤100000000:=by
  unfold fieldStr
  repeat' split
  all_goals simp
theorem has_k (k:Int) (c:UInt8) (n:Int) (hn:n=c.toNat) (w:World) :
    Calls Tryz.prog 93 #[.string ⟨(fieldStr k).toArray⟩,.int .u8 n] w fun e w'=>e=.returned (.bool (hasB k c))∧w'=w:=by
  subst hn;exact has_any _ _ _ (fieldStr_len k)
theorem len_isEmpty {α:Type} (ls:List α):((ls.length:Int) == 0)=ls.isEmpty:=by
  cases ls with
  | nil=>rfl
  | cons a l=>simp;omega
def Fr.val (f:Fr) (a:Option Addr) (cap:Nat):Value :=
  .agg #[.int .i64 f.kind,.int .i64 f.frm,.int .i64 f.view,.int .i64 f.place,.int .i64 f.agreed,.int .i64 f.last,.int .i64 f.line.c,.int .i64 f.line.t,.string ⟨f.line.s.toArray⟩,sla a f.lines.length cap]
theorem isFrame_any (f:Fr) (a:Option Addr) (cap:Nat) (w:World) (hl:LinesAt w a f.lines) (hn:f.lines.length≤100000000) (hcap:f.lines.length≤cap) :
    Calls Tryz.prog 91 #[f.val a cap] w fun e w'=>e=.returned (.bool f.ok)∧Below w.heap.size w w':=by
  obtain ⟨kind,frm,view,place,agreed,last,⟨c,t,s⟩,ls⟩:=f
  have HL:=hid hl
  dsimp only at HL hn hcap
  clear hl
  unfold Fr.val sla
  dsimp only
  rcases Int.lt_or_le kind 1 with h1 | h1
  · have HF:Hid (Fr.ok ⟨kind,frm,view,place,agreed,last,⟨c,t,s⟩,ls⟩=false):=by
      show Fr.ok _=_
      unfold Fr.ok
      rw [show decide (1≤kind)=false from by simp;omega];simp
    go_enter Tryz.func91,Tryz.ntmps91
    go_wp2
    go_ret
    exact ⟨ret_bool HF.out.symm,(Below.refl _ _).alloc (Nat.le_refl _) _⟩
  rcases Int.lt_or_le 9 kind with h9 | h9
  · have HF:Hid (Fr.ok ⟨kind,frm,view,place,agreed,last,⟨c,t,s⟩,ls⟩=false):=by
      show Fr.ok _=_
      unfold Fr.ok
      rw [show decide (kind≤9)=false from by simp;omega];simp
    go_enter Tryz.func91,Tryz.ntmps91
    go_wp2
    go_ret
    exact ⟨ret_bool HF.out.symm,(Below.refl _ _).alloc (Nat.le_refl _) _⟩
  have HOK:Hid (Fr.ok ⟨kind,frm,view,place,agreed,last,⟨c,t,s⟩,ls⟩=(fitsB (hasB kind 102) frm 0 4 && fitsB (hasB kind 118) view 0 100 && fitsB (hasB kind 112) place (if hasB kind 49 then 1 else 0) 20 &&
      fitsB (hasB kind 97) agreed 0 20 && fitsB (hasB kind 108) last 0 100 &&
      (if hasB kind 49 then (Ln.mk c t s).ok else (Ln.mk c t s).isZero) && !(kind == 9 && !s.isEmpty) && (if hasB kind 110 then linesOk ls else ls.isEmpty))):=by
    show Fr.ok _=_
    unfold Fr.ok
    simp only [h1,h9,decide_true,Bool.true_and]
  go_enter Tryz.func91,Tryz.ntmps91
  go_wp2_with fail
  refine (fields_any kind _ h1 h9).mono ?_
  rintro e w1 ⟨rfl,hb1⟩
  have HB1:=hid hb1
  obtain ⟨q1,q2⟩:=bcell hb1
  have hz1:w.heap.size < w1.heap.size:=by have:=hb1.size;simp at this;omega
  have HW1:Hid (Below w.heap.size w w1):=((Below.refl _ w).alloc (Nat.le_refl _) _).trans (hb1.mono (by simp))
  clear hb1 q2
  go_wp2_with fail
  refine (has_k kind 49 _ rfl _).mono ?_
  rintro e _ ⟨rfl,rfl⟩
  go_wp2_with fail
  refine (has_k kind 110 _ rfl _).mono ?_
  rintro e _ ⟨rfl,rfl⟩
  generalize hasB kind 49=one at HOK ⊢
  generalize hasB kind 110=all at HOK ⊢
  have more:∀ (least:Int),Hid (least=if one then 1 else 0)→True:=fun _ _=>trivial
  clear more
  cases one
  all_goals
    go_wp2_with fail
    refine (has_k kind 102 _ rfl _).mono ?_
    rintro e _ ⟨rfl,rfl⟩
    go_wp2_with fail
    refine (has_k kind 118 _ rfl _).mono ?_
    rintro e _ ⟨rfl,rfl⟩
    go_wp2_with fail
    refine (has_k kind 112 _ rfl _).mono ?_
    rintro e _ ⟨rfl,rfl⟩
    go_wp2_with fail
    refine (has_k kind 97 _ rfl _).mono ?_
    rintro e _ ⟨rfl,rfl⟩
    go_wp2_with fail
    refine (has_k kind 108 _ rfl _).mono ?_
    rintro e _ ⟨rfl,rfl⟩
    go_wp2_with fail
    refine (fits_any (hasB kind 102) frm 0 4 _).mono ?_
    rintro e _ ⟨rfl,rfl⟩
    go_wp2_with fail
    refine (fits_any (hasB kind 118) view 0 100 _).mono ?_
    rintro e _ ⟨rfl,rfl⟩
    go_wp2_with fail
    refine (fits_any (hasB kind 112) place _ 20 _).mono ?_
    rintro e _ ⟨rfl,rfl⟩
    go_wp2_with fail
    refine (fits_any (hasB kind 97) agreed 0 20 _).mono ?_
    rintro e _ ⟨rfl,rfl⟩
    go_wp2_with fail
    refine (fits_any (hasB kind 108) last 0 100 _).mono ?_
    rintro e _ ⟨rfl,rfl⟩
    simp only [if_true,Bool.false_eq_true,if_false] at HOK
    generalize fitsB (hasB kind 102) frm 0 4=b1 at HOK ⊢
    generalize fitsB (hasB kind 118) view 0 100=b2 at HOK ⊢
    generalize fitsB (hasB kind 112) place _ 20=b3 at HOK ⊢
    generalize fitsB (hasB kind 97) agreed 0 20=b4 at HOK ⊢
    generalize fitsB (hasB kind 108) last 0 100=b5 at HOK ⊢
    go_wp2_with (go_at_call 143;refine (isLine_any ⟨c,t,s⟩ _).mono ?_;rintro e w2 ⟨rfl,hb2⟩;obtain ⟨r1,r2⟩:=bcell hb2;have HB2:=hid hb2;clear hb2 r2)
    all_goals (try (go_ret;refine ⟨ret_bool ?_,?_⟩))
  all_goals (try first | exact HW1.out | exact HW1.out.trans (HB2.out.mono HW1.out.size))
  all_goals (try (rw [HOK.out];simp_all [Ln.isZero];done))
  all_goals
    have HB12:=hid (HW1.out.trans (HB2.out.mono HW1.out.size))
    have hz2:w.heap.size < w2.heap.size:=by have:=HB2.out.size;omega
    refine (areLines_any a cap ls _ (HL.out.below HB12.out) hn hcap).mono ?_
    rintro e w3 ⟨rfl,hb3⟩
    obtain ⟨p1,p2⟩:=bcell hb3
    have HB3:=hid (HB12.out.trans (hb3.mono HB12.out.size))
    clear hb3 p2
    have HLE:Hid (((ls.length:Int) == 0)=ls.isEmpty):=len_isEmpty ls
    cases all
    all_goals
      go_wp2
    all_goals
      go_ret
      refine ⟨ret_bool ?_,HB3.out⟩
      rw [HOK.out]
      have:=HLE.out
      simp_all [Ln.isZero]
theorem convN (q n c:Nat) (xs:List Int) (w:World) (hn:xs.length=n) (h:∀ i,i < n→w.cell? ⟨q,i,none⟩=some (.int .u8 (xs.getD i 0))) :
    (convert 31 9 (.slice (some ⟨q,0,none⟩) n c)).run Tryz.prog w=.ok (.string ⟨(xs.map fun n=>UInt8.ofNat n.toNat).toArray⟩) w :=
  run_convert_bytes_arg w 31 5 Tryz.underlying31 Tryz.underlying5 q 0 n c xs hn (fun i hi=>by rw [Nat.zero_add];exact h i hi) 9 Tryz.underlying9
theorem conv3 (q c:Nat) (x0 x1 x2:Int) (w:World) (h0:w.cell? ⟨q,0,none⟩=some (.int .u8 x0)) (h1:w.cell? ⟨q,1,none⟩=some (.int .u8 x1)) (h2:w.cell? ⟨q,2,none⟩=some (.int .u8 x2)) :
    (convert 31 9 (.slice (some ⟨q,0,none⟩) 3 c)).run Tryz.prog w=.ok (.string ⟨[UInt8.ofNat x0.toNat,UInt8.ofNat x1.toNat,UInt8.ofNat x2.toNat].toArray⟩) w :=
  convN q 3 c [x0,x1,x2] w rfl (fun i hi=>by
    match i,hi with
    | 0,_=>exact h0
    | 1,_=>exact h1
    | 2,_=>exact h2)
theorem conv1' (q c:Nat) (x0:Int) (w:World) (h0:w.cell? ⟨q,0,none⟩=some (.int .u8 x0)) :
    (convert 31 9 (.slice (some ⟨q,0,none⟩) 1 c)).run Tryz.prog w=.ok (.string ⟨[UInt8.ofNat x0.toNat].toArray⟩) w :=
  convN q 1 c [x0] w rfl (fun i hi=>by
    match i,hi with
    | 0,_=>exact h0)
theorem conv2 (q c:Nat) (x0 x1:Int) (w:World) (h0:w.cell? ⟨q,0,none⟩=some (.int .u8 x0)) (h1:w.cell? ⟨q,1,none⟩=some (.int .u8 x1)) :
    (convert 31 9 (.slice (some ⟨q,0,none⟩) 2 c)).run Tryz.prog w=.ok (.string ⟨[UInt8.ofNat x0.toNat,UInt8.ofNat x1.toNat].toArray⟩) w :=
  convN q 2 c [x0,x1] w rfl (fun i hi=>by
    match i,hi with
    | 0,_=>exact h0
    | 1,_=>exact h1)
theorem conv6 (q c:Nat) (x0 x1 x2 x3 x4 x5:Int) (w:World) (h0:w.cell? ⟨q,0,none⟩=some (.int .u8 x0)) (h1:w.cell? ⟨q,1,none⟩=some (.int .u8 x1)) (h2:w.cell? ⟨q,2,none⟩=some (.int .u8 x2))
    (h3:w.cell? ⟨q,3,none⟩=some (.int .u8 x3)) (h4:w.cell? ⟨q,4,none⟩=some (.int .u8 x4)) (h5:w.cell? ⟨q,5,none⟩=some (.int .u8 x5)) :
    (convert 31 9 (.slice (some ⟨q,0,none⟩) 6 c)).run Tryz.prog w=.ok (.string ⟨[UInt8.ofNat x0.toNat,UInt8.ofNat x1.toNat,UInt8.ofNat x2.toNat,UInt8.ofNat x3.toNat,UInt8.ofNat x4.toNat,UInt8.ofNat x5.toNat].toArray⟩) w :=
  convN q 6 c [x0,x1,x2,x3,x4,x5] w rfl (fun i hi=>by
    match i,hi with
    | 0,_=>exact h0
    | 1,_=>exact h1
    | 2,_=>exact h2
    | 3,_=>exact h3
    | 4,_=>exact h4
    | 5,_=>exact h5)
theorem byteOf_nat (n:Nat):byteOf (n:Int)=UInt8.ofNat (n % 256):=by
  unfold byteOf
  congr 1
theorem chkStep (c x:Nat) (hc:c < 65536) (hx:x < 256):(wrap64 ((c:Int) * 31+wrap64 (x:Int))).tmod 65536=(((c * 31+x) % 65536:Nat):Int):=by
  have e1:wrap64 (x:Int)=x:=by unfold wrap64;omega
  have e2:wrap64 ((c:Int) * 31+(x:Int))=((c * 31+x:Nat):Int):=by unfold wrap64;omega
  rw [e1,e2,Int.tmod_eq_emod_of_nonneg (by omega)];omega
theorem lineBytes_len (l:Ln):(lineBytes l).length=l.s.length+3:=by simp [lineBytes]
theorem str_val {a b:ByteArray} (h:a.data.toList=b.data.toList):Value.string a=Value.string b:=by
  have:a=b:=ByteArray.ext (Array.toList_inj.1 h)
  rw [this]
theorem ret_str {a b:ByteArray} (h:a.data.toList=b.data.toList):Ending.returned (.string a)=.returned (.string b):=by rw [str_val h]
theorem lineText_any (l:Ln) (w:World) (hn:l.s.length≤100000000) :
    Calls Tryz.prog 94 #[.agg #[.int .i64 l.c,.int .i64 l.t,.string ⟨l.s.toArray⟩]] w fun e w'=>e=.returned (.string ⟨(lineBytes l).toArray⟩)∧Below w.heap.size w w':=by
  obtain ⟨c,t,s⟩:=l
  dsimp only at hn ⊢
  have hconv:=conv3
  go_enter Tryz.func94,Tryz.ntmps94
  go_wp2
  go_ret
  refine ⟨ret_str ?_,((Below.refl _ _).alloc (Nat.le_refl _) _).alloc (by simp) _⟩
  rw [ByteArray.data_append,Array.toList_append]
  show [UInt8.ofNat (c % 256).toNat,UInt8.ofNat (t % 256).toNat,UInt8.ofNat (s.length % 256)]++s=lineBytes ⟨c,t,s⟩
  rw [← byteOf_nat];rfl
theorem linesText_any (a:Option Addr) (cap:Nat) (ls:List Ln) (w:World) (hl:LinesAt w a ls) (hn:ls.length≤100000000) (hs:∀ l ∈ ls,l.s.length≤8) :
    Calls Tryz.prog 95 #[sla a ls.length cap] w fun e w'=>e=.returned (.string ⟨(linesBytes ls).toArray⟩)∧Below w.heap.size w w':=by
  have HL:=hid hl
  have HS:=hid hs
  clear hl hs
  unfold sla
  have hconv:=conv1'
  go_enter Tryz.func95,Tryz.ntmps95
  go_wp2
  go_loopw [3,4] (fun v i wr=>∃ (k:Nat) (l:List UInt8),k≤ls.length∧i=.int .i64 k∧v=.string ⟨l.toArray⟩∧l.length≤1+11 * k∧Hid (l=byteOf ls.length :: manyBytes (ls.take k))∧Below w.heap.size w wr) (fun _ i _=>ls.length - (intOf i).toNat)
  case atStart=>exact ⟨0,[byteOf ls.length],Nat.zero_le _,rfl,by rw [byteOf_nat],by simp,rfl,(Below.refl _ _).alloc (Nat.le_refl _) _⟩
  case round =>
    obtain ⟨k,l,hk,rfl,rfl,hll,hv,hb⟩:=hrel
    have HB:=hid hb
    clear hb
    by_cases hlt:k < ls.length
    · have HLr:=hid (HL.out.below HB.out)
      obtain ⟨g,o,rfl,h0,h1,h2⟩:=HLr.out k hlt
      have hx8:=HS.out ls[k] (List.getElem_mem hlt)
      have HT:Hid (byteOf ls.length :: manyBytes (ls.take (k+1))=l++lineBytes ls[k]):=by
        show _=_
        rw [take_snoc ls k hlt,manyBytes_snoc,hv.out];rfl
      generalize hx:ls[k]=x at hx8 HT h0 h1 h2
      clear hx
      have hlb:=lineBytes_len x
      have hlb2:(lineBytes x).length≤11:=by omega
      clear hlb
      go_wp2_with fail
      refine (lineText_any x _ (by omega)).mono ?_
      rintro e w1 ⟨rfl,hb1⟩
      have HB1:=hid (HB.out.trans (hb1.mono HB.out.size))
      clear hb1
      go_wp2
      go_roundw
      case rel =>
        exact ⟨k+1,l++lineBytes x,by omega,by go_num,str_val (by simp),by simp;omega,HT.out.symm,HB1.out⟩
      case measure=>simp [intOf];omega
    · go_wp2
      go_ret
      have e:k=ls.length:=by omega
      subst e
      refine ⟨ret_str ?_,HB.out⟩
      have:=hv.out
      rw [List.take_length] at this
      simp [this,linesBytes]
theorem chkInt (l:List UInt8) (k:Nat) (h:k < l.length):((chk (l.take k):Int) * 31+(l[k].toNat:Int)) % 65536=(chk (l.take (k+1)):Int):=by
  rw [take_snoc l k h,chk_snoc];omega
theorem checked_any (l:List UInt8) (w:World) (hn:l.length≤100000000) :
    Calls Tryz.prog 96 #[.string ⟨l.toArray⟩] w fun e w'=>e=.returned (.string ⟨(withChk l).toArray⟩)∧Below w.heap.size w w':=by
  have hconv:=conv2
  go_enter Tryz.func96,Tryz.ntmps96
  go_wp2
  go_loop [3,4] (fun n i=>∃ (k c:Nat),k≤l.length∧i=.int .i64 k∧n=.int .i64 c∧c < 65536∧Hid (c=chk (l.take k))) (fun _ i=>l.length - (intOf i).toNat)
  case atStart=>exact ⟨0,7,Nat.zero_le _,rfl,rfl,by omega,rfl⟩
  case round =>
    obtain ⟨k,c,hk,rfl,rfl,hc,hv⟩:=hrel
    by_cases hlt:k < l.length
    · have HT:=hid (chkInt l k hlt)
      have hb:(l[k].toNat:Int) < 256:=by have:=l[k].toNat_lt;omega
      have hb0:(0:Int)≤(l[k].toNat:Int):=by omega
      go_wp2
      go_round
      case rel=>exact ⟨k+1,(c * 31+l[k].toNat) % 65536,by omega,by go_num,congrArg _ (chkStep c l[k].toNat hc l[k].toNat_lt),Nat.mod_lt _ (by omega),by show _=_;rw [take_snoc l k hlt,chk_snoc,← hv.out]⟩
      case measure=>simp [intOf];omega
    · go_wp2
      go_ret
      have e:k=l.length:=by omega
      subst e
      refine ⟨ret_str ?_,(Below.refl _ _).alloc (Nat.le_refl _) _⟩
      have hv:=hv.out
      rw [List.take_length] at hv
      subst hv
      rw [ByteArray.data_append,Array.toList_append]
      show l++_=withChk l
      unfold withChk
      rfl
theorem checked_at (s:ByteArray) (l:List UInt8) (w:World) (hn:l.length≤100000000) (hs:s=⟨l.toArray⟩) :
    Calls Tryz.prog 96 #[.string s] w fun e w'=>e=.returned (.string ⟨(withChk l).toArray⟩)∧Below w.heap.size w w':=by
  subst hs;exact checked_any l w hn
theorem bytes_ext {a:ByteArray} {l:List UInt8} (h:a.data.toList=l):a=⟨l.toArray⟩:=by subst h;rfl
theorem no_both (k:Int):¬ (hasB k 49=true∧hasB k 110=true):=by
  unfold hasB memB fieldStr
  repeat' split
  all_goals decide
theorem refPack_any (f:Fr) (a:Option Addr) (cap:Nat) (w:World) (hl:LinesAt w a f.lines) (hn:f.lines.length≤100000000) (hcap:f.lines.length≤cap) :
    Calls Tryz.prog 50 #[f.val a cap] w fun e w'=>e=.returned (.tuple #[.string ⟨(packS f).toArray⟩,.int .i64 (packE f)])∧Below w.heap.size w w':=by
  have HL:=hid hl
  have HIF:=hid (fun w1 (h:Below w.heap.size w w1)=>isFrame_any f a cap w1 (HL.out.below h) hn hcap)
  clear hl
  cases hok:f.ok
  · have HE:Hid (packS f=[]∧packE f=3):=by show _∧_;simp [packS,packE,hok]
    have HO:=hid hok
    clear hok
    unfold Fr.val sla at HIF ⊢
    go_enter Tryz.func50,Tryz.ntmps50
    go_wp2_with fail
    refine (HIF.out _ ((Below.refl _ _).alloc (Nat.le_refl _) _)).mono ?_
    rintro e w1 ⟨rfl,hb1⟩
    rw [HO.out]
    go_wp2
    go_ret2
    exact ⟨by rw [HE.out.1,HE.out.2];rfl,((Below.refl _ _).alloc (Nat.le_refl _) _).trans (hb1.mono (by simp))⟩
  · have HE:Hid (packS f=withChk f.body∧packE f=0):=by show _∧_;simp [packS,packE,hok,Fr.bytes]
    have HO:=hid hok
    have HBL:=Fr.body_len hok
    obtain ⟨p1,p2,p3,p4,p5,p6⟩:=Fr.ok_parts hok
    have P3:=hid p3
    have P5:=hid p5
    have HBD:Hid (f.body=f.head++(if hasB f.kind 49 then lineBytes f.line else [])++(if hasB f.kind 110 then linesBytes f.lines else [])):=rfl
    clear hok p3 p4 p5 p6
    have hconv:=conv6
    obtain ⟨kind,frm,view,place,agreed,last,⟨c,t,s⟩,ls⟩:=f
    unfold Fr.val sla at HIF ⊢
    dsimp only at *
    go_enter Tryz.func50,Tryz.ntmps50
    go_wp2_with fail
    refine (HIF.out _ ((Below.refl _ _).alloc (Nat.le_refl _) _)).mono ?_
    rintro e w1 ⟨rfl,hb1⟩
    rw [HO.out]
    have hz1:w.heap.size < w1.heap.size:=by have:=hb1.size;simp at this;omega
    have HW1:Hid (Below w.heap.size w w1):=((Below.refl _ w).alloc (Nat.le_refl _) _).trans (hb1.mono (by simp))
    obtain ⟨q1,q2⟩:=bcell hb1
    clear hb1 q2
    go_wp2_with fail
    refine (fields_any kind _ p1 p2).mono ?_
    rintro e w2 ⟨rfl,hb2⟩
    obtain ⟨r1,r2⟩:=bcell hb2
    simp only [World.size_alloc] at r1
    have hz2:w.heap.size < w2.heap.size:=by have:=hb2.size;simp at this;omega
    have HW2:Hid (Below w.heap.size w w2):=(HW1.out.alloc (by have:=HW1.out.size;omega) _).trans (hb2.mono (by have:=HW1.out.size;simp;omega))
    clear hb2 r2
    go_wp2_with fail
    refine (has_k kind 49 _ rfl _).mono ?_
    rintro e _ ⟨rfl,rfl⟩
    go_wp2_with fail
    refine (has_k kind 110 _ rfl _).mono ?_
    rintro e _ ⟨rfl,rfl⟩
    have HK:Hid (UInt8.ofNat kind.toNat=byteOf kind):=by
      show _=_
      unfold byteOf;rw [Int.emod_eq_of_lt (by omega) (by omega)]
    cases h49:hasB kind 49
    · cases h110:hasB kind 110
      · rw [h49,h110] at HBD
        clear h49 h110
        go_wp2_with fail
        refine (checked_at _ _ _ (Nat.le_trans HBL (by omega)) ?_).mono ?_
        · rw [HBD.out,HK.out];rfl
        rintro e w3 ⟨rfl,hb3⟩
        go_wp2
        go_ret2
        exact ⟨by rw [HE.out.1,HE.out.2];rfl,HW2.out.trans (hb3.mono HW2.out.size)⟩
      · have hls:=P5.out h110
        rw [h49,h110] at HBD
        clear h49 h110
        obtain ⟨n20,hlo⟩:=linesOk_all hls
        have hmb:=manyBytes_len ls hlo
        have HLO:=hid hlo
        have hlb:(linesBytes ls).length≤221:=by unfold linesBytes;rw [List.length_cons];omega
        clear hlo hls hmb
        go_wp2_with fail
        refine (linesText_any a cap ls _ (HL.out.below HW2.out) hn (fun l hl=>Ln.ok_len (HLO.out l hl))).mono ?_
        rintro e w3 ⟨rfl,hb3⟩
        have HW3:=hid (HW2.out.trans (hb3.mono HW2.out.size))
        clear hb3
        go_wp2_with fail
        refine (checked_at _ _ _ (Nat.le_trans HBL (by omega)) ?_).mono ?_
        · rw [HBD.out,HK.out];exact bytes_ext (by rw [ByteArray.data_append];simp [Fr.head,byteOf])
        rintro e w4 ⟨rfl,hb4⟩
        go_wp2
        go_ret2
        exact ⟨by rw [HE.out.1,HE.out.2];rfl,HW3.out.trans (hb4.mono HW3.out.size)⟩
    · have hlk:=Ln.ok_len (P3.out h49)
      cases h110:hasB kind 110
      · rw [h49,h110] at HBD
        clear h49 h110
        dsimp only at hlk
        have hlb:(lineBytes ⟨c,t,s⟩).length≤11:=by rw [lineBytes_len];dsimp only;omega
        go_wp2_with fail
        refine (lineText_any ⟨c,t,s⟩ _ (by dsimp only;omega)).mono ?_
        rintro e w3 ⟨rfl,hb3⟩
        have HW3:=hid (HW2.out.trans (hb3.mono HW2.out.size))
        clear hb3
        go_wp2_with fail
        refine (checked_at _ _ _ (Nat.le_trans HBL (by omega)) ?_).mono ?_
        · rw [HBD.out,HK.out];exact bytes_ext (by rw [ByteArray.data_append];simp [Fr.head,byteOf])
        rintro e w4 ⟨rfl,hb4⟩
        go_wp2
        go_ret2
        exact ⟨by rw [HE.out.1,HE.out.2];rfl,HW3.out.trans (hb4.mono HW3.out.size)⟩
      · exact absurd ⟨h49,h110⟩ (no_both kind)
theorem tl_no (b:List UInt8) (h:takeLine b=none):tlLine b=Ln.zero∧tlRest b=[]∧tlOk b=false:=by simp [tlLine,tlRest,tlOk,h]
theorem tl_yes (b:List UInt8) (h3:3≤b.length) (h:3+(b.getD 2 0).toNat≤b.length) :
    tlLine b=⟨(b.getD 0 0).toNat,(b.getD 1 0).toNat,(b.drop 3).take (b.getD 2 0).toNat⟩∧tlRest b=b.drop (3+(b.getD 2 0).toNat)∧tlOk b=true:=by
  have:takeLine b=some (⟨(b.getD 0 0).toNat,(b.getD 1 0).toNat,(b.drop 3).take (b.getD 2 0).toNat⟩,b.drop (3+(b.getD 2 0).toNat)):=by
    unfold takeLine;rw [if_neg (by omega),if_neg (by omega)]
  simp [tlLine,tlRest,tlOk,this]
theorem extr (b:List UInt8) (i j:Nat):(⟨b.toArray⟩:ByteArray).extract i j=⟨((b.drop i).take (j - i)).toArray⟩:=by
  apply ByteArray.ext
  rw [ByteArray.data_extract]
  simp [List.extract]
theorem lineAt_any (b:List UInt8) (w:World) (hn:b.length≤100000000) :
    Calls Tryz.prog 145 #[.string ⟨b.toArray⟩] w fun e w'=>e=.returned (.tuple #[.agg #[.int .i64 (tlLine b).c,.int .i64 (tlLine b).t,.string ⟨(tlLine b).s.toArray⟩],.string ⟨(tlRest b).toArray⟩,.bool (tlOk b)])∧Below w.heap.size w w':=by
  rcases Nat.lt_or_ge b.length 3 with h3 | h3
  · obtain ⟨e1,e2,e3⟩:=tl_no b (by unfold takeLine;rw [if_pos h3])
    rw [e1,e2,e3]
    clear e1 e2 e3
    go_enter Tryz.func145,Tryz.ntmps145
    go_wp2
    exact bodyPost_ret (v:=.tuple #[.agg #[.int .i64 0,.int .i64 0,.string ⟨#[]⟩],.string ⟨#[]⟩,.bool false]) (by simp [results,Tryz.results145,go_sem]) rfl ⟨rfl,(Below.refl _ _).alloc (Nat.le_refl _) _⟩
  · have i0:∀ h,(⟨b.toArray⟩:ByteArray)[0]'h=b.getD 0 0:=fun h=>by rw [getD_at b 0 0 (by omega)];rfl
    have i1:∀ h,(⟨b.toArray⟩:ByteArray)[1]'h=b.getD 1 0:=fun h=>by rw [getD_at b 1 0 (by omega)];rfl
    have i2:∀ h,(⟨b.toArray⟩:ByteArray)[2]'h=b.getD 2 0:=fun h=>by rw [getD_at b 2 0 (by omega)];rfl
    have HY:=hid (tl_yes b h3)
    have HN:Hid (b.length < 3+(b.getD 2 0).toNat→takeLine b=none):=fun h=>by unfold takeLine;rw [if_neg (by omega),if_pos h]
    generalize b.getD 0 0=x at i0 HY
    generalize b.getD 1 0=y at i1 HY
    generalize b.getD 2 0=z at i2 HY HN
    have hx:x.toNat < 256:=x.toNat_lt
    have hy:y.toNat < 256:=y.toNat_lt
    have hz:z.toNat < 256:=z.toNat_lt
    rcases Nat.lt_or_ge b.length (3+z.toNat) with hb | hb
    · obtain ⟨e1,e2,e3⟩:=tl_no b (HN.out hb)
      rw [e1,e2,e3]
      clear e1 e2 e3
      go_enter Tryz.func145,Tryz.ntmps145
      go_wp2
      exact bodyPost_ret (v:=.tuple #[.agg #[.int .i64 0,.int .i64 0,.string ⟨#[]⟩],.string ⟨#[]⟩,.bool false]) (by simp [results,Tryz.results145,go_sem]) rfl ⟨rfl,(Below.refl _ _).alloc (Nat.le_refl _) _⟩
    · obtain ⟨e1,e2,e3⟩:=HY.out hb
      rw [e1,e2,e3]
      clear e1 e2 e3
      go_enter Tryz.func145,Tryz.ntmps145
      go_wp2
      go_region
      all_goals go_wp2
      refine bodyPost_ret (v:=.tuple #[.agg #[.int .i64 x.toNat,.int .i64 y.toNat,.string ((⟨b.toArray⟩:ByteArray).extract 3 (3+z.toNat))],.string ((⟨b.toArray⟩:ByteArray).extract (3+z.toNat) b.length),.bool true]) (by simp [results,Tryz.results145,go_sem]) rfl ⟨?_,((Below.refl _ _).alloc (Nat.le_refl _) _).drew⟩
      rw [extr,extr,show 3+z.toNat - 3=z.toNat from by omega,List.take_of_length_le (l:=b.drop (3+z.toNat)) (by rw [List.length_drop];omega)]
end
end Go.Proofs.YtolififimldmlaaGreat
