import Derived.Test.YtolififimldmlaaGreatPart50
import Derived.Test.YtolififimldmlaaGreatPart19
import Derived.Test.YtolififimldmlaaGreatPart24
import Derived.ProofKit
import Derived.OpenShut
import Derived.JoinedCond
set_option linter.unusedVariables false
set_option linter.unusedSimpArgs false
set_option maxRecDepth 100000
set_option maxHeartbeats 16000000
namespace Go.Proofs.YtolififimldmlaaGreat
section
open Go.ChangeShapes Go.WideShapes Go.ChangeAt Go.RowKit
theorem stepLeads (o:OpG) (hk:3≤o.kind∧o.kind≤10) (hsl:o.s.length≤9000000) (hr:o.ranged):StepSaid KIs_ IvL true 88 o:=by
  intro x W gh n cap H gp np cp P hw hps h6 hn _
  have hb:Below x.heap.size x (x.alloc (.cells o.cells 76)):=(Below.refl _ _).alloc (Nat.le_refl _) _
  by_cases h3:o.kind=3
  · by_cases hv:(readD o.s).1.view=0
    · exact (stepMade KIs_ IvL true (n+4) x W gh gp n o (.inl h3) (madeOpen_on KIs_ IvL true openSaid_ keepsSaid_ (fun kp me pa l hc hl hv=>IvL.made kp me pa l hc hl (hv rfl)) _ W gh n cap H gp np cp P (hw.below hb) (hps.below keepsSaid_ hb) h6 hn o h3 hsl (.inr ⟨rfl,hv⟩))).mono fun e y ⟨h1,h2⟩=>⟨h1,4,by omega,h2⟩
    · exact (stepMade KIs_ IvL true n x W gh gp n o (.inl h3) (madeOpen_past KIs_ IvL keepsSaid_ _ W gh n cap H gp np cp P (hw.below hb) (hps.below keepsSaid_ hb) h6 o h3 hsl hv)).mono fun e y ⟨h1,h2⟩=>⟨h1,0,by omega,h2⟩
  · by_cases h7:o.kind=7
    · rcases Nat.eq_zero_or_pos np with h0 | h0
      · subst h0
        exact (stepMade KIs_ IvL true n x W gh gp n o (.inr h7) (madeAgain_none KIs_ IvL true keepsSaid_ _ W gh n cap H gp cp P (hw.below hb) (hps.below keepsSaid_ hb) o h7)).mono fun e y ⟨h1,h2⟩=>⟨h1,0,by omega,h2⟩
      · exact (stepMade KIs_ IvL true (n+8) x W gh gp n o (.inr h7) (madeAgain_some KIs_ IvL true openSaid_ keepsSaid_ diskSaid_ (fun s h=>IvL.ok h) IvL.again _ W gh n cap H gp np cp P (hw.below hb) (hps.below keepsSaid_ hb) h0 h6 hn o h7 hr.1)).mono fun e y ⟨h1,h2⟩=>⟨h1,8,by omega,h2⟩
    · rcases Nat.eq_zero_or_pos np with h0 | h0
      · subst h0
        exact (stepNone KIs_ IvL true keepsSaid_ x W gh n cap H gp cp P hw hps o (by omega) h7).mono fun e y ⟨h1,h2⟩=>⟨h1,0,by omega,h2⟩
      · by_cases h8:o.kind=8
        · exact (stepArm x W gh n cap H gp np cp P hw hps h0 h6 o h8 hr).mono fun e y ⟨h1,h2⟩=>⟨h1,0,by omega,h2⟩
        · by_cases h9:o.kind=9
          · exact stepHeard x W gh n cap H gp np cp P hw hps h0 h6 hn o h9 hsl hr
          · by_cases h10:o.kind=10
            · exact stepTick x W gh n cap H gp np cp P hw hps h0 h6 hn o h10 hr
            · exact (stepTell KIs_ IvL true keepsSaid_ stateSaid_ agreedSaid_ diskSaid_ (fun s h=>IvL.ok h) x W gh n cap H gp np cp P hw hps h0 h6 hn o (by omega) hr.1).mono fun e y ⟨h1,m,h2,h3⟩=>⟨h1,m,by omega,h3⟩
theorem playsL (w:World) (a:Option Addr) (cap:Nat) (ops:List OpG) (hops:OpsAt w a ops) (hsm:∀ o ∈ ops,o.small∧o.ranged) (hlen:ops.length≤1048576) :
    Calls Tryz.prog 13 #[sla a ops.length cap,.int .i64 3,.int .i64 10,.bool true] w fun e y=>e=.returned (.int .i64 (-1))∧Below w.heap.size w y :=
  playsG KIs_ IvL true 88 keepsSaid_ 3 10 w a cap ops hops (fun o ho h1 h2=>stepLeads o ⟨h1,h2⟩ (hsm o ho).1.1 (hsm o ho).2) (by omega) (by omega) (by omega)
theorem exOpsL_ranged (a b c d e:List UInt8):∀ o ∈ exOps a b c d e,o.ranged:=by
  unfold exOps OpG.ranged
  simp [exOp]
theorem exampleL (w:World):Calls Tryz.prog 12 #[.int .i64 3,.int .i64 10,.bool true] w fun e y=>e=.returned (.bool true)∧Below w.heap.size w y :=
  example_any 3 10 true w fun x g h=>by
    have h1:=exOps_small _ _ _ _ _ (show (packS exSay).length≤9000000 by decide +kernel) (show (packS exPrepare).length≤9000000 by decide +kernel) (show (packS exHold).length≤9000000 by decide +kernel) (show (packS exChange).length≤9000000 by decide +kernel) (show (packS exSay2).length≤9000000 by decide +kernel)
    have h2:=playsL x (some ⟨g,0,none⟩) 28 _ h (fun o ho=>⟨h1 o ho,exOpsL_ranged _ _ _ _ _ o ho⟩) (by rw [exOps_len];decide)
    rw [exOps_len] at h2
    exact h2
theorem leads_walk (w:World) (a:Option Addr) (cap:Nat) (ops:List OpG) (hops:OpsAt w a ops) (hsm:∀ o ∈ ops,o.small∧o.ranged) (hlen:ops.length≤1048576) :
    Calls Tryz.prog 5 #[sla a ops.length cap] w fun e y=>e=.returned (.bool true)∧Below w.heap.size w y:=by
  have HO:=hid hops
  have HM:=hid hsm
  clear hops hsm
  unfold sla
  go_enter Tryz.func5,Tryz.ntmps5
  go_wp2_with fail
  refine (exampleL _).mono ?_
  rintro e w1 ⟨rfl,hb1⟩
  have HB1:=hid hb1
  clear hb1
  go_wp2_with fail
  have HP:=hid (playsL w1 a cap ops (HO.out.below HB1.out) HM.out hlen)
  unfold sla at HP
  refine HP.out.mono ?_
  rintro e w2 ⟨rfl,hb2⟩
  go_wp2
  go_ret
  exact ⟨rfl,HB1.out.trans (hb2.mono HB1.out.size)⟩
theorem ownL:ownKnob Tryz.prog.godebug=none:=by kernel_rfl
theorem laidOutL:laidOutB Tryz.prog=true:=by kernel_rfl
theorem leads_contract (H:Type) (enc:TypeId × Value→H) (W:World) (base:Nat) (args:Array Value) (ds gs:List (DataW H)) (before:List MemPlace)
    (hval:∀ (j:Nat) t v,Tryz.f5.params[j]?=some t→args[j]?=some v→Value.okWide Tryz.prog W .any base t v)
    (hW:DataW.Whole enc Tryz.prog Tryz.f5.params.toList Rows.leadsSpec.vars false W args.toList ds gs before) (hk:Rows.uptoSmall H (ds++gs)=true) :
    Calls Tryz.prog 5 args W fun e W'=>∃ v,e=.returned v∧Rows.leadsSpec.post enc Tryz.prog Tryz.f5 false true false false W args v W':=by
  have hW':=hW
  obtain ⟨p,q,hA0,hV,rfl,hfz,hnd⟩:=hW
  have hA:DataW.TrodAll enc Tryz.prog W 0 (fun _=>true) true Tryz.f5.params.toList args.toList ds p:=hA0
  rw [Tryz.params5] at hA hval
  obtain ⟨v0,vs0,d0,ds0,p0,q0,hargs,rfl,rfl,h0,r0⟩:=trodAll_cons hA
  obtain ⟨rfl,rfl,rfl⟩:=trodAll_nil r0
  obtain rfl:args=#[v0]:=by cases args;simp_all
  obtain ⟨rfl,rfl⟩:=trodVars_none hV
  have hbk:Rows.uptoBulk d0≤1048576:=by
    have h:Rows.uptoBulkAll ([d0]++[])≤1048576:=of_decide_eq_true hk
    simp only [List.append_nil,Rows.uptoBulkAll] at h
    omega
  obtain ⟨al,len,cp,rfl⟩:=okWide_slice Tryz.underlying22 (hval 0 22 v0 rfl rfl)
  have h0k:=h0
  obtain ⟨fuel,hf⟩:=h0
  obtain ⟨a,c,ops,ev,hops,hsm,hlen⟩:=ops_open (x:=(d0,p0)) hf hbk
  clear hA0
  simp only [List.append_nil] at hW'
  rw [ev]
  refine (leads_walk W a c ops hops hsm (by omega)).mono fun e W' ⟨he,hb⟩=>?_
  subst he
  rw [← ev]
  have hlt:∀ x ∈ p0,x.block < W.heap.size:=fun x hx=>by simpa using hW'.lt x (by simpa using hx)
  refine ⟨_,rfl,_,_,_,[],p0++[],[],hW',?_,?_,rfl,hb.frame _,fun h=>by cases h⟩
  · exact trodAll_cons_mk (shut_bool Tryz.underlying4 _) trodAll_mk0
  · exact trodAll_cons_mk (Below.trod laidOutL (by kernel_rfl) (of_decide_eq_true (by kernel_rfl)) h0k hb hlt) trodAll_mk0
theorem leads_lifted (os:Os) (started:os.Started) (H:Type) (enc:TypeId × Value→H) (F:Stop.Interp) :
    ReturnsInHanded {} Tryz.checked os 5 .any ((Rows.OpenSpec.upto Rows.leadsSpec).pre6 enc Tryz.prog Tryz.f5 Rows.leadsUptoRow.domain false) (((Rows.OpenSpec.upto Rows.leadsSpec).at F).post enc Tryz.prog Tryz.f5 false true false false):=by
  refine returnsInHanded_of_cond (C:=Tryz.checked) (s:=Rows.OpenSpec.upto Rows.leadsSpec) (k:=Rows.uptoSmall) rfl ownL started (by kernel_rfl) Tryz.func5
    (OpenSpec.witness (enc:=enc) (C:=Tryz.checked) (s:=Rows.OpenSpec.upto Rows.leadsSpec) (k:=Rows.uptoSmall) rfl false ⟨#[],#[.slice none 0 0],[]⟩ 8 (by kernel_rfl) (by kernel_rfl) (by kernel_rfl)
      (x:=([.nil],[],[])) (by kernel_rfl) rfl (by kernel_rfl)) ?_
  intro W base args ds gs before hval hW _ hk _
  exact leads_contract H enc W base args ds gs before hval hW hk
theorem leadsProof:Rows.LeadsUptoSaid :=
  OpenClaim.holds_of_cond 5 Tryz.f5 rfl rfl rfl rfl rfl rfl rfl ⟨rfl,rfl,rfl,rfl,rfl⟩ rfl rfl rfl rfl rfl (by kernel_rfl) Tryz.func5 (by kernel_rfl)
    (of_decide_eq_true (by kernel_rfl)) (by unfold Func.isWrapper;first | (rw [if_pos (by decide +kernel)];kernel_rfl) | (rw [if_neg (by decide +kernel)];exact ⟨rfl,rfl⟩))
    (fun os started H enc _ F=>leads_lifted os started H enc F)
end
end Go.Proofs.YtolififimldmlaaGreat
