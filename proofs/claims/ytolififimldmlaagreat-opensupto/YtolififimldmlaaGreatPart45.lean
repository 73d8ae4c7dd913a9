import Derived.Test.YtolififimldmlaaGreatPart44
import Derived.Test.YtolififimldmlaaGreatPart40
import Derived.Test.YtolififimldmlaaGreatPart43
import Derived.Test.YtolififimldmlaaGreatPart41
import Derived.ProofKit
import Derived.OpenShut
import Derived.JoinedCond
import Derived.Test.YtolififimldmlaaGreatPart42
set_option linter.unusedVariables false
set_option linter.unusedSimpArgs false
namespace Go.Proofs.YtolififimldmlaaGreat
open Go.RowKit
attribute [local go_sem ↓] Go.wp_at_zero Go.wp_at_succ

/-- What a keeper of 'Opens' is, wherever it was made. -/
def IvO (s : LK) : Prop := s.ok
theorem IvO.ok {s : LK} (h : IvO s) : s.ok := h
theorem IvO.made (kp me pa : Int) (l : List UInt8) (hc : ConfOk kp me pa) (hl : l.length ≤ 9000000) : IvO (LK.opened kp me pa (l.take (readD l).2) (readD l).1) := LK.opened_ok kp me pa l hc (by omega)
theorem IvO.again (s : LK) (keep : Int) (h : IvO s) : IvO (LK.opened s.kp s.me s.pa ((s.image keep).take (readD (s.image keep)).2) (readD (s.image keep)).1) := LK.opened_ok _ _ _ _ h.2.1 (Nat.le_trans (LK.image_len s keep) h.1)

theorem stepOpens (KIs : KeeperIs) (HOS : OpenSaid KIs) (HKS : KeepsSaid KIs) (HSS : StateSaid KIs) (HAS : AgreedSaid KIs) (HDS : DiskSaid KIs) (x : World) (W : Nat) (gh : Option Nat) (n cap : Nat) (H : Nat → HG) (gp : Option Nat) (np cp : Nat) (P : Nat → PG) (hw : WI x W (sl gp np cp) false gh n cap H) (hps : PS KIs IvO x W gh n H gp np cp P) (h6 : np ≤ 6) (hn : n ≤ 90000000)
    (o : OpG) (hk : 3 ≤ o.kind ∧ o.kind ≤ 7) (hsl : o.s.length ≤ 9000000) (hr : o.ranged) :
    Calls Tryz.prog 30 #[.pointer (some ⟨W, 0, none⟩), .agg o.cells] x fun e y => e = .returned (.bool true) ∧ ∃ m, m ≤ 8 ∧ LawAt KIs IvO x W false (n + m) gh gp y := by
  have hb : Below x.heap.size x (x.alloc (.cells o.cells 76)) := (Below.refl _ _).alloc (Nat.le_refl _) _
  by_cases h3 : o.kind = 3
  · exact (stepMade KIs IvO false (n + 4) x W gh gp n o (.inl h3) (madeOpen_on KIs IvO false HOS HKS (fun kp me pa l hc hl _ => IvO.made kp me pa l hc hl) _ W gh n cap H gp np cp P (hw.below hb) (hps.below HKS hb) h6 hn o h3 hsl (.inl rfl))).mono fun e y ⟨h1, h2⟩ => ⟨h1, 4, by omega, h2⟩
  · by_cases h7 : o.kind = 7
    · rcases Nat.eq_zero_or_pos np with h0 | h0
      · subst h0
        exact (stepMade KIs IvO false n x W gh gp n o (.inr h7) (madeAgain_none KIs IvO false HKS _ W gh n cap H gp cp P (hw.below hb) (hps.below HKS hb) o h7)).mono fun e y ⟨h1, h2⟩ => ⟨h1, 0, by omega, h2⟩
      · exact (stepMade KIs IvO false (n + 8) x W gh gp n o (.inr h7) (madeAgain_some KIs IvO false HOS HKS HDS (fun s h => IvO.ok h) IvO.again _ W gh n cap H gp np cp P (hw.below hb) (hps.below HKS hb) h0 h6 hn o h7 hr)).mono fun e y ⟨h1, h2⟩ => ⟨h1, 8, by omega, h2⟩
    · rcases Nat.eq_zero_or_pos np with h0 | h0
      · subst h0
        exact (stepNone KIs IvO false HKS x W gh n cap H gp cp P hw hps o (by omega) h7).mono fun e y ⟨h1, h2⟩ => ⟨h1, 0, by omega, h2⟩
      · exact (stepTell KIs IvO false HKS HSS HAS HDS (fun s h => IvO.ok h) x W gh n cap H gp np cp P hw hps h0 h6 hn o (by omega) hr).mono fun e y ⟨h1, m, h2, h3⟩ => ⟨h1, m, by omega, h3⟩

theorem PS.start (KIs : KeeperIs) (Iv : LK → Prop) (x : World) (W : Nat) (H : Nat → HG) (P : Nat → PG) : PS KIs Iv x W none 0 H none 0 0 P :=
  ⟨.inl ⟨rfl, rfl, rfl⟩, fun j hj => absurd hj (by omega), fun j hj => absurd hj (by omega), fun j hj => absurd hj (by omega), fun j hj => absurd hj (by omega), (fun k e => by cases e), fun j hj => absurd hj (by omega)⟩
def PG.dull : PG := ⟨0, fun _ => False, LK.opened 0 0 0 [] Mm.zero⟩

/-- What a loop over a script holds behind k steps. -/
def Played (KIs : KeeperIs) (Iv : LK → Prop) (lead : Bool) (w : World) (k : Nat) (wr : World) : Prop :=
  ∃ (n : Nat) (gh : Option Nat) (cap : Nat) (H : Nat → HG) (gp : Option Nat) (np cp : Nat) (P : Nat → PG), n ≤ 8 * k ∧ WI wr w.heap.size (sl gp np cp) lead gh n cap H ∧ PS KIs Iv wr w.heap.size gh n H gp np cp P ∧ np ≤ 6 ∧ (∀ q, gh = some q → w.heap.size ≤ q) ∧ (∀ q, gp = some q → w.heap.size ≤ q) ∧ Below w.heap.size w wr

theorem Played.start (KIs : KeeperIs) (Iv : LK → Prop) (lead : Bool) (w : World) : Played KIs Iv lead w 0 (w.alloc (.cells #[.slice none 0 0, .slice none 0 0, .bool lead] 81)) :=
  ⟨0, none, 0, fun _ => HG.dull, none, 0, 0, fun _ => PG.dull, by omega, WI.start _ _ _, PS.start _ _ _ _ _ _, by omega, (fun _ e => by cases e), (fun _ e => by cases e), (Below.refl _ _).alloc (Nat.le_refl _) _⟩
theorem Played.same {KIs : KeeperIs} {Iv : LK → Prop} {lead : Bool} {w wr : World} {k : Nat} (h : Played KIs Iv lead w k wr) : Played KIs Iv lead w (k + 1) wr := by
  obtain ⟨n, gh, cap, H, gp, np, cp, P, h1, h2⟩ := h
  exact ⟨n, gh, cap, H, gp, np, cp, P, by omega, h2⟩
theorem Played.below {KIs : KeeperIs} {Iv : LK → Prop} {lead : Bool} {w wr : World} {k : Nat} (h : Played KIs Iv lead w k wr) : Below w.heap.size w wr := by
  obtain ⟨n, gh, cap, H, gp, np, cp, P, h1, h2, h3, h4, h5, h6, h7⟩ := h
  exact h7

/-- What a step must do, whatever is played. -/
def StepSaid (KIs : KeeperIs) (Iv : LK → Prop) (lead : Bool) (o : OpG) : Prop := ∀ (x : World) (W : Nat) (gh : Option Nat) (n cap : Nat) (H : Nat → HG) (gp : Option Nat) (np cp : Nat) (P : Nat → PG), WI x W (sl gp np cp) lead gh n cap H → PS KIs Iv x W gh n H gp np cp P → np ≤ 6 → n ≤ 90000000 → LinesAt x o.fa o.f.lines →
  Calls Tryz.prog 30 #[.pointer (some ⟨W, 0, none⟩), .agg o.cells] x fun e y => e = .returned (.bool true) ∧ ∃ m, m ≤ 8 ∧ LawAt KIs Iv x W lead (n + m) gh gp y

theorem LawAt.played {KIs : KeeperIs} {Iv : LK → Prop} (HKS : KeepsSaid KIs) {lead : Bool} {w wr y z : World} {k n m : Nat} {gh gp : Option Nat} (h : LawAt KIs Iv wr w.heap.size lead (n + m) gh gp y) (hn : n ≤ 8 * k) (hm : m ≤ 8) (hg : ∀ q, gh = some q → w.heap.size ≤ q) (hp : ∀ q, gp = some q → w.heap.size ≤ q) (hb : Below w.heap.size w wr) (hz : Below y.heap.size y z) : Played KIs Iv lead w (k + 1) z := by
  obtain ⟨⟨gh', cap', H', gp', np, cp, P, a1, a2, a3, a4, a5⟩, t⟩ := h
  have hs := hb.size
  have tb : Below w.heap.size wr y := t.below hs (fun q hq e => by
    rcases e with e | e | e
    · omega
    · exact hg q e
    · exact hp q e)
  have ys := tb.size
  refine ⟨n + m, gh', cap', H', gp', np, cp, P, by omega, a1.below hz, a2.below HKS hz, a3, fun q e => ?_, fun q e => ?_, (hb.trans tb).trans (hz.mono (by omega))⟩
  · rcases a4 q e with e | e
    · exact hg q e
    · omega
  · rcases a5 q e with e | e
    · exact hp q e
    · omega

set_option maxRecDepth 100000 in
set_option maxHeartbeats 2000000 in
theorem playsG (KIs : KeeperIs) (Iv : LK → Prop) (lead : Bool) (HKS : KeepsSaid KIs) (least last : Int) (w : World) (a : Option Addr) (cap : Nat) (ops : List OpG) (hops : OpsAt w a ops) (hst : ∀ o ∈ ops, least ≤ o.kind → o.kind ≤ last → StepSaid KIs Iv lead o) (hlen : ops.length ≤ 10000000) :
    Calls Tryz.prog 13 #[sla a ops.length cap, .int .i64 least, .int .i64 last, .bool lead] w fun e y => e = .returned (.int .i64 (-1)) ∧ Below w.heap.size w y := by
  have HO := hid hops
  have HS := hid hst
  clear hops hst
  unfold sla
  go_enter Tryz.func13, Tryz.ntmps13
  go_wp2
  go_loopw [10] (fun i wr => ∃ k : Nat, k ≤ ops.length ∧ i = .int .i64 k ∧ Hid (Played KIs Iv lead w k wr)) (fun i _ => ops.length - (intOf i).toNat)
  case atStart => exact ⟨0, Nat.zero_le _, rfl, Played.start KIs Iv lead w⟩
  case round =>
    obtain ⟨k, hk, rfl, HI⟩ := hrel
    by_cases hlt : k < ops.length
    · obtain ⟨g, o, rfl, hc, hl⟩ := (HO.out.below HI.out.below) k hlt
      have HSO := hid (HS.out ops[k] (List.getElem_mem hlt))
      have HLN := hid hl
      have b1 : (0 : Int) ≤ (k : Int) := by omega
      have b2 : (k : Int) < (ops.length : Int) := by omega
      generalize ops[k] = op at hc HSO HLN
      have z0 : wr.cell? ⟨g, o + k * 17, none⟩ = some (.int .i64 op.kind) := hc 0 (by omega)
      have z1 : wr.cell? ⟨g, o + k * 17 + 1, none⟩ = some (.int .i64 op.n) := hc 1 (by omega)
      have z2 : wr.cell? ⟨g, o + k * 17 + 2, none⟩ = some (.string ⟨op.s.toArray⟩) := hc 2 (by omega)
      have z3 : wr.cell? ⟨g, o + k * 17 + 3, none⟩ = some (.int .i64 op.f.kind) := hc 3 (by omega)
      have z4 : wr.cell? ⟨g, o + k * 17 + 4, none⟩ = some (.int .i64 op.f.frm) := hc 4 (by omega)
      have z5 : wr.cell? ⟨g, o + k * 17 + 5, none⟩ = some (.int .i64 op.f.view) := hc 5 (by omega)
      have z6 : wr.cell? ⟨g, o + k * 17 + 6, none⟩ = some (.int .i64 op.f.place) := hc 6 (by omega)
      have z7 : wr.cell? ⟨g, o + k * 17 + 7, none⟩ = some (.int .i64 op.f.agreed) := hc 7 (by omega)
      have z8 : wr.cell? ⟨g, o + k * 17 + 8, none⟩ = some (.int .i64 op.f.last) := hc 8 (by omega)
      have z9 : wr.cell? ⟨g, o + k * 17 + 9, none⟩ = some (.int .i64 op.f.line.c) := hc 9 (by omega)
      have z10 : wr.cell? ⟨g, o + k * 17 + 10, none⟩ = some (.int .i64 op.f.line.t) := hc 10 (by omega)
      have z11 : wr.cell? ⟨g, o + k * 17 + 11, none⟩ = some (.string ⟨op.f.line.s.toArray⟩) := hc 11 (by omega)
      have z12 : wr.cell? ⟨g, o + k * 17 + 12, none⟩ = some (sla op.fa op.f.lines.length op.fc) := hc 12 (by omega)
      have z13 : wr.cell? ⟨g, o + k * 17 + 13, none⟩ = some (.int .i64 op.c1) := hc 13 (by omega)
      have z14 : wr.cell? ⟨g, o + k * 17 + 14, none⟩ = some (.int .i64 op.c2) := hc 14 (by omega)
      have z15 : wr.cell? ⟨g, o + k * 17 + 15, none⟩ = some (.int .i64 op.c3) := hc 15 (by omega)
      have z16 : wr.cell? ⟨g, o + k * 17 + 16, none⟩ = some (.int .i64 op.a) := hc 16 (by omega)
      clear hc hl
      rcases Int.lt_or_le op.kind least with h1 | h1
      · go_wp2
        go_roundw
        case rel =>
          first
          | exact ⟨k + 1, by omega, by go_num, HI.out.same⟩
          | ((repeat apply Exists.intro); refine ⟨?_, rfl⟩; exact ⟨k + 1, by omega, by go_num, HI.out.same⟩)
        case measure => simp [intOf]; omega
      rcases Int.lt_or_le last op.kind with h2 | h2
      · go_wp2
        go_roundw
        case rel =>
          first
          | exact ⟨k + 1, by omega, by go_num, HI.out.same⟩
          | ((repeat apply Exists.intro); refine ⟨?_, rfl⟩; exact ⟨k + 1, by omega, by go_num, HI.out.same⟩)
        case measure => simp [intOf]; omega
      obtain ⟨n, gh, cp, H, gp, np, cpp, P, hn, hw, hps, h6, hg, hgp, hb⟩ := HI.out
      have HST := hid (HSO.out h1 h2 wr w.heap.size gh n cp H gp np cpp P hw hps h6 (by omega) HLN.out)
      have HG := hid hg
      have HGP := hid hgp
      have HB := hid hb
      clear hw hps hg hgp hb HSO
      go_wp2_with fail
      refine HST.out.mono ?_
      rintro e y ⟨rfl, m, hm, hst⟩
      have HL := hid hst
      have HW' := hid hst.ex
      clear hst
      obtain ⟨gh', cap', H', gp', np', cp', P', W', _⟩ := HW'.out
      have HW' := hid W'
      clear W'
      go_wp2_with fail
      refine (HW'.out.looks (by omega)).mono ?_
      rintro e z ⟨rfl, hbz⟩
      have HBZ := hid hbz
      clear hbz
      go_wp2
      go_roundw
      case rel =>
        exact ⟨k + 1, by omega, by go_num, HL.out.played HKS hn hm HG.out HGP.out HB.out HBZ.out⟩
      case measure => simp [intOf]; omega
    · go_wp2
      go_ret
      exact ⟨rfl, HI.out.below⟩

end Go.Proofs.YtolififimldmlaaGreat

set_option linter.unusedVariables false
set_option linter.unusedSimpArgs false
namespace Go.Proofs.YtolififimldmlaaGreat
open Go.ChangeShapes Go.WideShapes Go.ChangeAt Go.RowKit

/-- What 'Opens' asks of the program's keepers. -/
structure OpensSaids (KIs : KeeperIs) : Prop where
  os : OpenSaid KIs
  ks : KeepsSaid KIs
  ss : StateSaid KIs
  ag : AgreedSaid KIs
  ds : DiskSaid KIs

theorem playsO {KIs : KeeperIs} (HS : OpensSaids KIs) (w : World) (a : Option Addr) (cap : Nat) (ops : List OpG) (hops : OpsAt w a ops) (hsm : ∀ o ∈ ops, o.small ∧ o.ranged) (hlen : ops.length ≤ 10000000) :
    Calls Tryz.prog 13 #[sla a ops.length cap, .int .i64 3, .int .i64 7, .bool false] w fun e y => e = .returned (.int .i64 (-1)) ∧ Below w.heap.size w y :=
  playsG KIs IvO false HS.ks 3 7 w a cap ops hops (fun o ho h1 h2 x W gh n cap H gp np cp P hw hps h6 hn _ => stepOpens KIs HS.os HS.ks HS.ss HS.ag HS.ds x W gh n cap H gp np cp P hw hps h6 hn o ⟨h1, h2⟩ (hsm o ho).1.1 (hsm o ho).2) hlen

theorem exOps_ranged (a b c d e : List UInt8) : ∀ o ∈ exOps a b c d e, o.ranged := by
  unfold exOps OpG.ranged
  simp [exOp]

theorem exampleO {KIs : KeeperIs} (HS : OpensSaids KIs) (w : World) : Calls Tryz.prog 12 #[.int .i64 3, .int .i64 7, .bool false] w fun e y => e = .returned (.bool true) ∧ Below w.heap.size w y :=
  example_any 3 7 false w fun x g h => by
    have h1 := exOps_small _ _ _ _ _ (show (packS exSay).length ≤ 9000000 by decide +kernel) (show (packS exPrepare).length ≤ 9000000 by decide +kernel) (show (packS exHold).length ≤ 9000000 by decide +kernel) (show (packS exChange).length ≤ 9000000 by decide +kernel) (show (packS exSay2).length ≤ 9000000 by decide +kernel)
    have h2 := playsO HS x (some ⟨g, 0, none⟩) 28 _ h (fun o ho => ⟨h1 o ho, exOps_ranged _ _ _ _ _ o ho⟩) (by rw [exOps_len]; decide)
    rw [exOps_len] at h2
    exact h2

set_option maxHeartbeats 400000 in
theorem opens_walk {KIs : KeeperIs} (HS : OpensSaids KIs) (w : World) (a : Option Addr) (cap : Nat) (ops : List OpG) (hops : OpsAt w a ops) (hsm : ∀ o ∈ ops, o.small ∧ o.ranged) (hlen : ops.length ≤ 10000000) :
    Calls Tryz.prog 4 #[sla a ops.length cap] w fun e y => e = .returned (.bool true) ∧ Below w.heap.size w y := by
  have HO := hid hops
  have HM := hid hsm
  clear hops hsm
  unfold sla
  go_enter Tryz.func4, Tryz.ntmps4
  go_wp2_with fail
  refine (exampleO HS _).mono ?_
  rintro e w1 ⟨rfl, hb1⟩
  have HB1 := hid hb1
  clear hb1
  go_wp2_with fail
  have HP := hid (playsO HS w1 a cap ops (HO.out.below HB1.out) HM.out hlen)
  unfold sla at HP
  refine HP.out.mono ?_
  rintro e w2 ⟨rfl, hb2⟩
  go_wp2
  go_ret
  exact ⟨rfl, HB1.out.trans (hb2.mono HB1.out.size)⟩

theorem ownO : ownKnob Tryz.prog.godebug = none := by kernel_rfl
theorem laidOutO : laidOutB Tryz.prog = true := by kernel_rfl

set_option maxRecDepth 100000 in
theorem opens_contract {KIs : KeeperIs} (HS : OpensSaids KIs) (H : Type) (enc : TypeId × Value → H) (W : World) (base : Nat) (args : Array Value) (ds gs : List (DataW H)) (before : List MemPlace)
    (hval : ∀ (j : Nat) t v, Tryz.f4.params[j]? = some t → args[j]? = some v → Value.okWide Tryz.prog W .any base t v)
    (hW : DataW.Whole enc Tryz.prog Tryz.f4.params.toList Rows.opensSpec.vars false W args.toList ds gs before) (hk : Rows.uptoSmall H (ds ++ gs) = true) :
    Calls Tryz.prog 4 args W fun e W' => ∃ v, e = .returned v ∧ Rows.opensSpec.post enc Tryz.prog Tryz.f4 false true false false W args v W' := by
  have hW' := hW
  obtain ⟨p, q, hA0, hV, rfl, hfz, hnd⟩ := hW
  have hA : DataW.TrodAll enc Tryz.prog W 0 (fun _ => true) true Tryz.f4.params.toList args.toList ds p := hA0
  rw [Tryz.params4] at hA hval
  obtain ⟨v0, vs0, d0, ds0, p0, q0, hargs, rfl, rfl, h0, r0⟩ := trodAll_cons hA
  obtain ⟨rfl, rfl, rfl⟩ := trodAll_nil r0
  obtain rfl : args = #[v0] := by cases args; simp_all
  obtain ⟨rfl, rfl⟩ := trodVars_none hV
  have hbk : Rows.uptoBulk d0 ≤ 1048576 := by
    have h : Rows.uptoBulkAll ([d0] ++ []) ≤ 1048576 := of_decide_eq_true hk
    simp only [List.append_nil, Rows.uptoBulkAll] at h
    omega
  obtain ⟨al, len, cp, rfl⟩ := okWide_slice Tryz.underlying22 (hval 0 22 v0 rfl rfl)
  have h0k := h0
  obtain ⟨fuel, hf⟩ := h0
  obtain ⟨a, c, ops, ev, hops, hsm, hlen⟩ := ops_open (x := (d0, p0)) hf hbk
  clear hA0
  simp only [List.append_nil] at hW'
  rw [ev]
  refine (opens_walk HS W a c ops hops hsm (by omega)).mono fun e W' ⟨he, hb⟩ => ?_
  subst he
  rw [← ev]
  have hlt : ∀ x ∈ p0, x.block < W.heap.size := fun x hx => by simpa using hW'.lt x (by simpa using hx)
  refine ⟨_, rfl, _, _, _, [], p0 ++ [], [], hW', ?_, ?_, rfl, hb.frame _, fun h => by cases h⟩
  · exact trodAll_cons_mk (shut_bool Tryz.underlying4 _) trodAll_mk0
  · exact trodAll_cons_mk (Below.trod laidOutO (by kernel_rfl) (of_decide_eq_true (by kernel_rfl)) h0k hb hlt) trodAll_mk0

set_option maxRecDepth 100000 in
theorem opens_lifted {KIs : KeeperIs} (HS : OpensSaids KIs) (os : Os) (started : os.Started) (H : Type) (enc : TypeId × Value → H) (F : Stop.Interp) :
    ReturnsInHanded {} Tryz.checked os 4 .any ((Rows.OpenSpec.upto Rows.opensSpec).pre6 enc Tryz.prog Tryz.f4 Rows.opensUptoRow.domain false) (((Rows.OpenSpec.upto Rows.opensSpec).at F).post enc Tryz.prog Tryz.f4 false true false false) := by
  refine returnsInHanded_of_cond (C := Tryz.checked) (s := Rows.OpenSpec.upto Rows.opensSpec) (k := Rows.uptoSmall) rfl ownO started (by kernel_rfl) Tryz.func4
    (OpenSpec.witness (enc := enc) (C := Tryz.checked) (s := Rows.OpenSpec.upto Rows.opensSpec) (k := Rows.uptoSmall) rfl false ⟨#[], #[.slice none 0 0], []⟩ 8 (by kernel_rfl) (by kernel_rfl) (by kernel_rfl)
      (x := ([.nil], [], [])) (by kernel_rfl) rfl (by kernel_rfl)) ?_
  intro W base args ds gs before hval hW _ hk _
  exact opens_contract HS H enc W base args ds gs before hval hW hk

theorem opens_of {KIs : KeeperIs} (HS : OpensSaids KIs) : Rows.OpensUptoSaid :=
  OpenClaim.holds_of_cond 4 Tryz.f4 rfl rfl rfl rfl rfl rfl rfl ⟨rfl, rfl, rfl, rfl, rfl⟩ rfl rfl rfl rfl rfl (by kernel_rfl) Tryz.func4 (by kernel_rfl)
    (of_decide_eq_true (by kernel_rfl)) (by unfold Func.isWrapper; first | (rw [if_pos (by decide +kernel)]; kernel_rfl) | (rw [if_neg (by decide +kernel)]; exact ⟨rfl, rfl⟩))
    (fun os started H enc _ F => opens_lifted HS os started H enc F)

end Go.Proofs.YtolififimldmlaaGreat

set_option linter.unusedVariables false
set_option linter.unusedSimpArgs false
namespace Go.Proofs.YtolififimldmlaaGreat

/-- Opens. -/
theorem opensProof : Rows.OpensUptoSaid := opens_of (KIs := KIs_) ⟨openSaid_, keepsSaid_, stateSaid_, agreedSaid_, diskSaid_⟩

end Go.Proofs.YtolififimldmlaaGreat
