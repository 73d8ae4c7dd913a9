import Derived.Test.YtolififimldmlaaGreatStepF
set_option linter.unusedVariables false
set_option linter.unusedSimpArgs false
namespace Go.Proofs.YtolififimldmlaaGreat
open Go.RowKit
attribute [local go_sem ↓] Go.wp_at_zero Go.wp_at_succ

/-- A script lies in memory. -/
def OpsAt (w : World) (a : Option Addr) (ops : List OpG) : Prop :=
  ∀ j (h : j < ops.length), ∃ g o, a = some ⟨g, o, none⟩ ∧ (∀ r, r < 17 → w.cell? ⟨g, o + j * 17 + r, none⟩ = ops[j].cells[r]?) ∧ LinesAt w ops[j].fa ops[j].f.lines

def OpG.small (o : OpG) : Prop := o.s.length ≤ 9000000 ∧ o.f.lines.length ≤ 10000000 ∧ o.f.lines.length ≤ o.fc

theorem OpsAt.below {w w' : World} {a : Option Addr} {ops : List OpG} (h : OpsAt w a ops) (hb : Below w.heap.size w w') : OpsAt w' a ops := fun j hj => by
  obtain ⟨g, o, e, hc, hl⟩ := h j hj
  refine ⟨g, o, e, fun r hr => ?_, hl.below hb⟩
  have h0 := hc r hr
  have : ops[j].cells[r]? = some (ops[j].cells[r]'(by show r < 17; exact hr)) := Array.getElem?_eq_getElem _
  rw [this] at h0 ⊢
  exact (hb.cell (World.block_lt_of_cell? _ _ h0)).trans h0

theorem WI.start (w : World) (lead : Bool) (H : Nat → HG) : WI (w.alloc (.cells #[.slice none 0 0, .slice none 0 0, .bool lead] 81)) w.heap.size (.slice none 0 0) lead none 0 0 H :=
  ⟨heap_alloc_new w _, .inl ⟨rfl, rfl, rfl⟩, (fun e => by cases e), fun j hj => absurd hj (by omega), fun j hj => absurd hj (by omega), fun j hj => absurd hj (by omega), fun j hj => absurd hj (by omega)⟩

def HG.dull : HG := ⟨0, none, 0, 0, none, 0, 0, none, 0, 0, fun _ => 0, 0⟩

set_option maxRecDepth 100000 in
set_option maxHeartbeats 2000000 in
theorem playsF (HPS : PackSaid) (HUS : UnpackSaid) (w : World) (a : Option Addr) (cap : Nat) (ops : List OpG) (hops : OpsAt w a ops) (hsm : ∀ o ∈ ops, o.small) (hlen : ops.length ≤ 10000000) :
    Calls Tryz.prog 13 #[sla a ops.length cap, .int .i64 1, .int .i64 2, .bool false] w fun e y => e = .returned (.int .i64 (-1)) ∧ Below w.heap.size w y := by
  have HO := hid hops
  have HS := hid hsm
  clear hops hsm
  unfold sla
  go_enter Tryz.func13, Tryz.ntmps13
  go_wp2
  go_loopw [10] (fun i wr => ∃ k : Nat, k ≤ ops.length ∧ i = .int .i64 k ∧ Hid (∃ (n : Nat) (gh : Option Nat) (cp : Nat) (H : Nat → HG), n ≤ 8 * k ∧ WI wr w.heap.size (.slice none 0 0) false gh n cp H ∧ (∀ q, gh = some q → w.heap.size ≤ q) ∧ Below w.heap.size w wr)) (fun i _ => ops.length - (intOf i).toNat)
  case atStart => exact ⟨0, Nat.zero_le _, rfl, 0, none, 0, fun _ => HG.dull, by omega, WI.start _ _ _, (fun _ e => by cases e), (Below.refl _ _).alloc (Nat.le_refl _) _⟩
  case round =>
    obtain ⟨k, hk, rfl, HI⟩ := hrel
    by_cases hlt : k < ops.length
    · obtain ⟨n, gh, cp, H, hn, hw, hg, hb⟩ := HI.out
      obtain ⟨g, o, rfl, hc, hl⟩ := (HO.out.below hb) k hlt
      have hso := HS.out ops[k] (List.getElem_mem hlt)
      have HW := hid hw
      have HG := hid hg
      have HB := hid hb
      have HLN := hid hl
      have b1 : (0 : Int) ≤ (k : Int) := by omega
      have b2 : (k : Int) < (ops.length : Int) := by omega
      generalize ops[k] = op at hc hso HLN
      have z0 : wr.cell? ⟨g, o + k * 17, none⟩ = some (.int .i64 op.kind) := hc 0 (by omega)
      have z1 : wr.cell? ⟨g, o + k * 17 + 1, none⟩ = some (.int .i64 op.n) := hc 1 (by omega)
      have z2 : wr.cell? ⟨g, o + k * 17 + 2, none⟩ = some (.string ⟨op.s.toArray⟩) := hc 2 (by omega)
      have z3 : wr.cell? ⟨g, o + k * 17 + 3, none⟩ = some (.int .i64 op.f.kind) := hc 3 (by omega)
      have z4 : wr.cell? ⟨g, o + k * 17 + 4, none⟩ = some (.int .i64 op.f.frm) := hc 4 (by omega)
      have z5 : wr.cell? ⟨g, o + k * 17 + 5, none⟩ = some (.int .i64 op.f.view) := hc 5 (by omega)
      have z6 : wr.cell? ⟨g, o + k * 17 + 6, none⟩ = some (.int .i64 op.f.place) := hc 6 (by omega)
      have z7 : wr.cell? ⟨g, o + k * 17 + 7, none⟩ = some (.int .i64 op.f.agreed) := hc 7 (by omega)
      have z8 : wr.cell? ⟨g, o + k * 17 + 8, none⟩ = some (.int .i64 op.f.last) := hc 8 (by omega)
      have z9 : wr.cell? ⟨g, o + k * 17 + 9, none⟩ = some (.int .i64 op.f.line.c) := hc 9 (by omega)
      have z10 : wr.cell? ⟨g, o + k * 17 + 10, none⟩ = some (.int .i64 op.f.line.t) := hc 10 (by omega)
      have z11 : wr.cell? ⟨g, o + k * 17 + 11, none⟩ = some (.string ⟨op.f.line.s.toArray⟩) := hc 11 (by omega)
      have z12 : wr.cell? ⟨g, o + k * 17 + 12, none⟩ = some (sla op.fa op.f.lines.length op.fc) := hc 12 (by omega)
      have z13 : wr.cell? ⟨g, o + k * 17 + 13, none⟩ = some (.int .i64 op.c1) := hc 13 (by omega)
      have z14 : wr.cell? ⟨g, o + k * 17 + 14, none⟩ = some (.int .i64 op.c2) := hc 14 (by omega)
      have z15 : wr.cell? ⟨g, o + k * 17 + 15, none⟩ = some (.int .i64 op.c3) := hc 15 (by omega)
      have z16 : wr.cell? ⟨g, o + k * 17 + 16, none⟩ = some (.int .i64 op.a) := hc 16 (by omega)
      clear hc hw hg hb hl
      rcases Int.lt_or_le op.kind 1 with h1 | h1
      · go_wp2
        go_roundw
        case rel =>
          first
          | exact ⟨k + 1, by omega, by go_num, n, gh, cp, H, by omega, HW.out, HG.out, HB.out⟩
          | ((repeat apply Exists.intro); refine ⟨?_, rfl⟩; exact ⟨k + 1, by omega, by go_num, n, gh, cp, H, by omega, HW.out, HG.out, HB.out⟩)
        case measure => simp [intOf]; omega
      rcases Int.lt_or_le 2 op.kind with h2 | h2
      · go_wp2
        go_roundw
        case rel =>
          first
          | exact ⟨k + 1, by omega, by go_num, n, gh, cp, H, by omega, HW.out, HG.out, HB.out⟩
          | ((repeat apply Exists.intro); refine ⟨?_, rfl⟩; exact ⟨k + 1, by omega, by go_num, n, gh, cp, H, by omega, HW.out, HG.out, HB.out⟩)
        case measure => simp [intOf]; omega
      go_wp2_with fail
      refine (stepF HPS HUS _ w.heap.size _ _ gh n cp H HW.out (by omega) op (by omega) hso.1 HLN.out hso.2.1 hso.2.2).mono ?_
      rintro e y ⟨rfl, hst⟩
      obtain ⟨⟨gh', cp', H', W', gl⟩, t⟩ := hst
      have HW' := hid W'
      have HGL := hid gl
      have HT := hid t
      clear W' gl t
      go_wp2_with fail
      refine (HW'.out.looks (by omega)).mono ?_
      rintro e z ⟨rfl, hbz⟩
      have HBZ := hid hbz
      clear hbz
      go_wp2
      go_roundw
      case rel =>
        have hsz := HB.out.size
        have tb : Below w.heap.size wr y := HT.out.below hsz (fun q hq e => by
          rcases e with e | e
          · omega
          · exact HG.out q e)
        refine ⟨k + 1, by omega, by go_num, n + 8, gh', cp', H', by omega, HW'.out.below HBZ.out, fun q e => ?_, (HB.out.trans tb).trans (HBZ.out.mono (by have := (HB.out.trans tb).size; omega))⟩
        rcases HGL.out q e with e | e
        · exact HG.out q e
        · omega
      case measure => simp [intOf]; omega
    · go_wp2
      go_ret
      obtain ⟨n, gh, cp, H, hn, hw, hg, hb⟩ := HI.out
      exact ⟨rfl, hb⟩

end Go.Proofs.YtolififimldmlaaGreat
