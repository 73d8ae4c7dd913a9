import Derived.Test.YtolififimldmlaaGreatOpenOps
import Derived.ProofKit
import Derived.OpenShut
import Derived.JoinedCond
set_option linter.unusedVariables false
set_option linter.unusedSimpArgs false
namespace Go.Proofs.YtolififimldmlaaGreat
open Go.ChangeShapes Go.WideShapes Go.ChangeAt Go.RowKit

/-- What 'example' must do where frames alone are played. -/
def ExampleF : Prop := ∀ w : World, Calls Tryz.prog 12 #[.int .i64 1, .int .i64 2, .bool false] w fun e y => e = .returned (.bool true) ∧ Below w.heap.size w y

set_option maxHeartbeats 400000 in
theorem frames_walk (HPS : PackSaid) (HUS : UnpackSaid) (HEX : ExampleF) (w : World) (a : Option Addr) (cap : Nat) (ops : List OpG) (hops : OpsAt w a ops) (hsm : ∀ o ∈ ops, o.small) (hlen : ops.length ≤ 10000000) :
    Calls Tryz.prog 3 #[sla a ops.length cap] w fun e y => e = .returned (.bool true) ∧ Below w.heap.size w y := by
  have HO := hid hops
  have HS := hid hsm
  clear hops hsm
  unfold sla
  go_enter Tryz.func3, Tryz.ntmps3
  go_wp2_with fail
  refine (HEX _).mono ?_
  rintro e w1 ⟨rfl, hb1⟩
  have HB1 := hid hb1
  clear hb1
  go_wp2_with fail
  have HP := hid (playsF HPS HUS w1 a cap ops (HO.out.below HB1.out) HS.out hlen)
  unfold sla at HP
  refine HP.out.mono ?_
  rintro e w2 ⟨rfl, hb2⟩
  go_wp2
  go_ret
  exact ⟨rfl, HB1.out.trans (hb2.mono HB1.out.size)⟩

theorem own : ownKnob Tryz.prog.godebug = none := by kernel_rfl
theorem laidOut : laidOutB Tryz.prog = true := by kernel_rfl

set_option maxRecDepth 100000 in
theorem frames_contract (HPS : PackSaid) (HUS : UnpackSaid) (HEX : ExampleF) (H : Type) (enc : TypeId × Value → H) (W : World) (base : Nat) (args : Array Value) (ds gs : List (DataW H)) (before : List MemPlace)
    (hval : ∀ (j : Nat) t v, Tryz.f3.params[j]? = some t → args[j]? = some v → Value.okWide Tryz.prog W .any base t v)
    (hW : DataW.Whole enc Tryz.prog Tryz.f3.params.toList Rows.framesSpec.vars false W args.toList ds gs before) (hk : Rows.uptoSmall H (ds ++ gs) = true) :
    Calls Tryz.prog 3 args W fun e W' => ∃ v, e = .returned v ∧ Rows.framesSpec.post enc Tryz.prog Tryz.f3 false true false false W args v W' := by
  have hW' := hW
  obtain ⟨p, q, hA0, hV, rfl, hfz, hnd⟩ := hW
  have hA : DataW.TrodAll enc Tryz.prog W 0 (fun _ => true) true Tryz.f3.params.toList args.toList ds p := hA0
  rw [Tryz.params3] at hA hval
  obtain ⟨v0, vs0, d0, ds0, p0, q0, hargs, rfl, rfl, h0, r0⟩ := trodAll_cons hA
  obtain ⟨rfl, rfl, rfl⟩ := trodAll_nil r0
  obtain rfl : args = #[v0] := by cases args; simp_all
  obtain ⟨rfl, rfl⟩ := trodVars_none hV
  have hbk : Rows.uptoBulk d0 ≤ 1048576 := by
    have h : Rows.uptoBulkAll ([d0] ++ []) ≤ 1048576 := of_decide_eq_true hk
    simp only [List.append_nil, Rows.uptoBulkAll] at h
    omega
  obtain ⟨al, len, cp, rfl⟩ := okWide_slice Tryz.underlying22 (hval 0 22 v0 rfl rfl)
  have h0k := h0
  obtain ⟨fuel, hf⟩ := h0
  obtain ⟨a, c, ops, ev, hops, hsm, hlen⟩ := ops_open (x := (d0, p0)) hf hbk
  clear hA0
  simp only [List.append_nil] at hW'
  rw [ev]
  refine (frames_walk HPS HUS HEX W a c ops hops hsm (by omega)).mono fun e W' ⟨he, hb⟩ => ?_
  subst he
  rw [← ev]
  have hlt : ∀ x ∈ p0, x.block < W.heap.size := fun x hx => by simpa using hW'.lt x (by simpa using hx)
  refine ⟨_, rfl, _, _, _, [], p0 ++ [], [], hW', ?_, ?_, rfl, hb.frame _, fun h => by cases h⟩
  · exact trodAll_cons_mk (shut_bool Tryz.underlying4 _) trodAll_mk0
  · exact trodAll_cons_mk (Below.trod laidOut (by kernel_rfl) (of_decide_eq_true (by kernel_rfl)) h0k hb hlt) trodAll_mk0

set_option maxRecDepth 100000 in
theorem frames_lifted (HPS : PackSaid) (HUS : UnpackSaid) (HEX : ExampleF) (os : Os) (started : os.Started) (H : Type) (enc : TypeId × Value → H) (F : Stop.Interp) :
    ReturnsInHanded {} Tryz.checked os 3 .any ((Rows.OpenSpec.upto Rows.framesSpec).pre6 enc Tryz.prog Tryz.f3 Rows.framesUptoRow.domain false) (((Rows.OpenSpec.upto Rows.framesSpec).at F).post enc Tryz.prog Tryz.f3 false true false false) := by
  refine returnsInHanded_of_cond (C := Tryz.checked) (s := Rows.OpenSpec.upto Rows.framesSpec) (k := Rows.uptoSmall) rfl own started (by kernel_rfl) Tryz.func3
    (OpenSpec.witness (enc := enc) (C := Tryz.checked) (s := Rows.OpenSpec.upto Rows.framesSpec) (k := Rows.uptoSmall) rfl false ⟨#[], #[.slice none 0 0], []⟩ 8 (by kernel_rfl) (by kernel_rfl) (by kernel_rfl)
      (x := ([.nil], [], [])) (by kernel_rfl) rfl (by kernel_rfl)) ?_
  intro W base args ds gs before hval hW _ hk _
  exact frames_contract HPS HUS HEX H enc W base args ds gs before hval hW hk

theorem frames_of (HPS : PackSaid) (HUS : UnpackSaid) (HEX : ExampleF) : Rows.FramesUptoSaid :=
  OpenClaim.holds_of_cond 3 Tryz.f3 rfl rfl rfl rfl rfl rfl rfl ⟨rfl, rfl, rfl, rfl, rfl⟩ rfl rfl rfl rfl rfl (by kernel_rfl) Tryz.func3 (by kernel_rfl)
    (of_decide_eq_true (by kernel_rfl)) (by unfold Func.isWrapper; first | (rw [if_pos (by decide +kernel)]; kernel_rfl) | (rw [if_neg (by decide +kernel)]; exact ⟨rfl, rfl⟩))
    (fun os started H enc _ F => frames_lifted HPS HUS HEX os started H enc F)

end Go.Proofs.YtolififimldmlaaGreat
