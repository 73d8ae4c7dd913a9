import Derived.Test.YtolififimldmlaaGreatPart28
import Derived.Test.YtolififimldmlaaGreatPart27
import Derived.Great.BuildSlice
import Derived.Test.YtolififimldmlaaGreatPart01
set_option linter.unusedVariables false
set_option linter.unusedSimpArgs false
namespace Go.Proofs.YtolififimldmlaaGreat
open Go.RowKit
attribute [local go_sem ↓] Go.wp_at_zero Go.wp_at_succ

/-- 'append' of bytes to a row of bytes of one's own, nil or not. -/
theorem run_appB {w0 w : World} {b : Option Nat} {c : Nat} {l l2 : List UInt8} (ty tx : TypeId) (x : Value) (h : OwnBytes w0 w b c l) (hb : Below w0.heap.size w0 w) (hs : Src Tryz.prog 1 tx x l2.length (u8cells l2) w) (hn : l.length + l2.length ≤ 100000000) :
    ∃ b' c' w', (Builtin.append_ #[31, tx] ty #[sl b l.length c, x]).run Tryz.prog w = .ok (sl b' (l.length + l2.length) c') w' ∧ OwnBytes w0 w' b' c' (l ++ l2) ∧ Below w0.heap.size w0 w' := by
  obtain ⟨ib, hib, hib0, hib1, hib2⟩ := info_parts Tryz.info5
  have hsz := hb.size
  cases b with
  | none =>
    rcases h.own with ⟨_, h1, h2⟩ | ⟨g, _, h1, _⟩
    · have hl : l = [] := by cases l with
        | nil => rfl
        | cons _ _ => simp at h1
      subst hl
      subst h2
      obtain ⟨b', c', w', hr, P⟩ := run_appN (P := Tryz.prog) w 31 tx ty 5 ib (.int .u8 0) 1 1 Tryz.underlying31 hib hib0 hib1 hib2 rfl x l2.length (u8cells l2) hs (by omega) (by omega)
      have PB := P.bytes rfl
      refine ⟨b', c', w', by rw [List.length_nil, Nat.zero_add]; exact hr, ?_, hb.trans (P.below.mono hsz)⟩
      rw [List.nil_append]
      exact ⟨PB.1, PB.2, fun k e => Nat.le_trans hsz (P.fresh k e)⟩
    · cases h1
  | some g =>
    obtain ⟨g', c', w', hr, P⟩ := run_appS (P := Tryz.prog) w 31 tx ty 5 ib (.int .u8 0) 1 1 Tryz.underlying31 hib hib0 hib1 hib2 rfl g l.length c h.own x l2.length (u8cells l2) hs (by omega) (by omega)
    have G := (Grew.refl h.at_ h.own).app P rfl rfl rfl
    refine ⟨some g', c', w', hr, ⟨G.at_, G.own, fun k e => ?_⟩, hb.trans (G.touch.below hsz (fun k _ e => h.new k e))⟩
    have e := Option.some.inj e
    subst e
    rcases G.lies with e | e
    · exact h.new _ e
    · omega

/-- How far both are copied behind k rounds. -/
def catTo (l1 l2 : List UInt8) (k : Nat) : List UInt8 := if k = 0 then [] else if k = 1 then l1 else l1 ++ l2

theorem OwnBytes.lt {w w' : World} {g : Option Nat} {c : Nat} {l : List UInt8} (h : OwnBytes w w' g c l) {k : Nat} (e : g = some k) : k < w'.heap.size := h.own.lt e

set_option maxRecDepth 100000 in
set_option maxHeartbeats 8000000 in
theorem concat_go (B : Nat) (a1 a2 : Option Addr) (c1 c2 : Nat) (l1 l2 : List UInt8) (w : World) (hB : w.heap[B]? = some (.cells #[.slice a1 l1.length c1, .slice a2 l2.length c2] 31 (0, 0))) (h1 : BytesIn w a1 l1) (h2 : BytesIn w a2 l2) (hn : l1.length + l2.length ≤ 9900000) :
    Calls Tryz.prog 90 #[.slice (some ⟨B, 0, none⟩) 2 2] w fun e w' => ∃ b c, e = .returned (sl b (l1 ++ l2).length c) ∧ OwnBytes w w' b c (l1 ++ l2) ∧ Below w.heap.size w w' := by
  have e0 : w.cell? ⟨B, 0, none⟩ = some (.slice a1 l1.length c1) := cell_of_heap hB 0
  have e1 : w.cell? ⟨B, 1, none⟩ = some (.slice a2 l2.length c2) := cell_of_heap hB 1
  have H1 := hid h1
  have H2 := hid h2
  have E0 := hid e0
  have E1 := hid e1
  clear hB h1 h2
  go_enter Tryz.func90, Tryz.ntmps90
  go_wp2
  go_loopw [3, 11] (fun n i wr => ∃ k : Nat, k ≤ 2 ∧ i = .int .i64 k ∧ n = .int .i64 (catTo l1 l2 k).length ∧ w = wr) (fun _ i _ => 2 - (intOf i).toNat)
  case atStart => exact ⟨0, by omega, rfl, rfl, rfl⟩
  case round =>
    obtain ⟨k, hk, rfl, rfl, rfl⟩ := hrel
    have hk3 : k = 0 ∨ k = 1 ∨ k = 2 := by omega
    rcases hk3 with rfl | rfl | rfl
    · have z0 : (catTo l1 l2 0).length = 0 := rfl
      have n0 : ¬ ((l1.length : Int) < 0) := by omega
      rw [z0]
      go_wp2
      go_roundw
      case rel => exact ⟨1, by omega, rfl, by simp [catTo], by first | rfl | trivial⟩
      case measure => simp [intOf]
    · have z1 : (catTo l1 l2 1).length = l1.length := rfl
      have w1 : IntKind.i64.wrap ((l1.length : Int) + (l2.length : Int)) = (l1.length : Int) + (l2.length : Int) := by rw [IntWalk.i64_left, IntWalk.wrap64_in _ (by omega)]
      have n0 : ¬ ((l1.length : Int) + (l2.length : Int) < 0) := by omega
      rw [z1]
      go_wp2
      go_roundw
      case rel => exact ⟨2, by omega, rfl, by simp [catTo], by first | rfl | trivial⟩
      case measure => simp [intOf]
    · have z2 : (catTo l1 l2 2) = l1 ++ l2 := rfl
      rw [z2]
      have HG := hid (grow_go (l1 ++ l2).length w (by rw [List.length_append]; omega))
      clear e0 e1
      generalize hN : (l1 ++ l2).length = N at *
      go_wp2_with fail
      refine HG.out.mono ?_
      rintro e w2 ⟨b0, c0, rfl, hob, hbe⟩
      have HOB := hid hob
      have HBE := hid hbe
      clear hob hbe
      unfold sl
      go_wp2
      go_loopw [6, 27] (fun v i wr => ∃ (k : Nat) (b : Option Nat) (c n : Nat), k ≤ 2 ∧ i = .int .i64 k ∧ v = .slice (b.map fun g => ⟨g, 0, none⟩) n c ∧ n = (catTo l1 l2 k).length ∧ Hid (OwnBytes w wr b c (catTo l1 l2 k)) ∧ Hid (Below w.heap.size w wr)) (fun _ i _ => 2 - (intOf i).toNat)
      case atStart => exact ⟨0, b0, c0, 0, by omega, rfl, rfl, rfl, HOB.out, HBE.out⟩
      case round =>
        obtain ⟨k, b, c, n, hk, rfl, rfl, hn2, HO, HB⟩ := hrel
        have hk3 : k = 0 ∨ k = 1 ∨ k = 2 := by omega
        have x0 : wr.cell? ⟨B, 0, none⟩ = some (.slice a1 l1.length c1) := (HB.out.cell (World.block_lt_of_cell? _ _ E0.out)).trans E0.out
        have x1 : wr.cell? ⟨B, 1, none⟩ = some (.slice a2 l2.length c2) := (HB.out.cell (World.block_lt_of_cell? _ _ E1.out)).trans E1.out
        rcases hk3 with rfl | rfl | rfl
        · subst hn2
          obtain ⟨b', c', w', hr, ho, hb'⟩ := run_appB (l2 := l1) 31 31 (.slice a1 l1.length c1) HO.out HB.out (bytes_src a1 l1.length c1 l1 wr (H1.out.below HB.out) rfl) (by show (catTo l1 l2 0).length + l1.length ≤ _; simp [catTo]; omega)
          have HR := hid hr
          have HO' := hid ho
          have HB' := hid hb'
          clear hr ho hb'
          unfold sl at HR
          go_wp2_with (at_builtin; refine wpList_appRun rfl (.tmp 31) (.tmp 32) 31 31 rfl _ _ _ _ rfl rfl HR.out ?_)
          go_wp2
          go_roundw
          case rel => exact ⟨1, b', c', _, by omega, rfl, rfl, by simp [catTo], by simpa [catTo] using HO', HB'⟩
          case measure => simp [intOf]
        · subst hn2
          obtain ⟨b', c', w', hr, ho, hb'⟩ := run_appB (l2 := l2) 31 31 (.slice a2 l2.length c2) HO.out HB.out (bytes_src a2 l2.length c2 l2 wr (H2.out.below HB.out) rfl) (by show (catTo l1 l2 1).length + l2.length ≤ _; simp [catTo]; omega)
          have HR := hid hr
          have HO' := hid ho
          have HB' := hid hb'
          clear hr ho hb'
          unfold sl at HR
          go_wp2_with (at_builtin; refine wpList_appRun rfl (.tmp 31) (.tmp 32) 31 31 rfl _ _ _ _ rfl rfl HR.out ?_)
          go_wp2
          go_roundw
          case rel => exact ⟨2, b', c', _, by omega, rfl, rfl, by simp [catTo], by simpa [catTo] using HO', HB'⟩
          case measure => simp [intOf]
        · have z2 : (catTo l1 l2 2) = l1 ++ l2 := rfl
          rw [z2] at hn2 HO
          subst hn2
          go_wp2
          go_ret
          exact ⟨b, c, rfl, HO.out, HB.out⟩

end Go.Proofs.YtolififimldmlaaGreat

set_option linter.unusedVariables false
set_option linter.unusedSimpArgs false
namespace Go.Proofs.YtolififimldmlaaGreat
open Go.RowKit
attribute [local go_sem ↓] Go.wp_at_zero Go.wp_at_succ

theorem BytesAt.inO {w : World} {g : Option Nat} {l : List UInt8} (h : BytesAt w g l) : BytesIn w (g.map fun k => (⟨k, 0, none⟩ : Addr)) l := fun j hj => by
  obtain ⟨k, e, hc⟩ := h j hj
  subst e
  exact ⟨k, 0, rfl, by rw [Nat.zero_add]; exact hc⟩

set_option maxRecDepth 100000 in
set_option maxHeartbeats 8000000 in
theorem bytes_at (K : Nat) (kp me pa : Int) (d : List UInt8) (m : Mm) (arm : Int) (lost : List UInt8) (ag : Nat) (hs : Nat → Int) (gd : Option Nat) (cd : Nat) (gl : Option Nat) (cl : Nat) (gf : Option Nat) (cf : Nat) (w : World) (h : PK w K kp me pa d m arm lost ag hs gd cd gl cl gf cf) (hn : d.length + lost.length ≤ 9900000)
    (keep : Int) (kk : Nat) (hk : min (max keep 0) (lost.length : Int) = kk) :
    Calls Tryz.prog 49 #[.pointer (some ⟨K, 3, none⟩), .int .i64 keep] w fun e w' => ∃ g c, e = .returned (sl g (d ++ lost.take kk).length c) ∧ OwnBytes w w' g c (d ++ lost.take kk) ∧ Below w.heap.size w w' := by
  have hkl : kk ≤ lost.length := by omega
  have c3 : w.cell? ⟨K, 3, none⟩ = some (sl gd d.length cd) := cell_of_heap h.blk 3
  have c8 : w.cell? ⟨K, 8, none⟩ = some (sl gf lost.length cf) := cell_of_heap h.blk 8
  have hcf : lost.length ≤ cf := by
    rcases h.fow with ⟨_, h1, _⟩ | ⟨_, _, _, _, _, h1, _⟩
    · omega
    · exact h1
  have HD : Hid (BytesIn w (gd.map fun k => (⟨k, 0, none⟩ : Addr)) d) := h.db.inO
  have HF : Hid (BytesIn w (gf.map fun k => (⟨k, 0, none⟩ : Addr)) (lost.take kk)) := h.fb.inO.take kk
  have hlk : (lost.take kk).length = kk := by rw [List.length_take]; omega
  have k0 : (0 : Int) ≤ (kk : Int) := by omega
  have k1 : (kk : Int) ≤ (cf : Int) := by omega
  clear h
  unfold sl at c3 c8
  have HC : Hid (∀ (B : Nat) (z : World), z.heap[B]? = some (.cells #[.slice (gd.map fun g => ⟨g, 0, none⟩) d.length cd, .slice (gf.map fun g => ⟨g, 0, none⟩) kk cf] 31 (0, 0)) → Below w.heap.size w z →
      Calls Tryz.prog 90 #[.slice (some ⟨B, 0, none⟩) 2 2] z fun e w' => ∃ b c, e = .returned (sl b (d ++ lost.take kk).length c) ∧ OwnBytes w w' b c (d ++ lost.take kk) ∧ Below w.heap.size w w') := fun B z hB hb => by
    rw [← hlk] at hB
    refine (concat_go B (gd.map fun g => ⟨g, 0, none⟩) (gf.map fun g => ⟨g, 0, none⟩) cd cf d (lost.take kk) z hB (HD.out.below hb) (HF.out.below hb) (by rw [hlk]; omega)).mono ?_
    rintro e w' ⟨b, c, he, ho, hb'⟩
    exact ⟨b, c, he, ho.base hb.size, hb.trans (hb'.mono hb.size)⟩
  clear HD HF
  generalize hlt : d ++ lost.take kk = ll at *
  clear hlt hlk
  have hl0 : ¬ ((lost.length : Int) < 0) := by omega
  have h3 : (keep < 0 ∧ kk = 0) ∨ (keep = kk) ∨ ((lost.length : Int) < keep ∧ kk = lost.length ∧ ¬ keep < 0) := by omega
  rcases h3 with ⟨hA, rfl⟩ | rfl | ⟨hA, rfl, hA2⟩
  all_goals
    clear hk
    cases gf
    all_goals
      simp only [Option.map_none, Option.map_some] at c8 HC
      go_enter Tryz.func49, Tryz.ntmps49
      go_wp2
      go_still_tail 10, (by kernel_rfl)
      go_wp2_with fail
      refine (HC.out _ _ (heap_alloc_new w.drew _) (((Below.refl _ w).drew).alloc (Nat.le_refl _) _)).mono ?_
      rintro e w' ⟨b, c, rfl, ho, hb⟩
      unfold sl
      go_wp2
      go_ret
      exact ⟨b, c, rfl, ho, hb⟩

end Go.Proofs.YtolififimldmlaaGreat

set_option linter.unusedVariables false
set_option linter.unusedSimpArgs false
namespace Go.Proofs.YtolififimldmlaaGreat
open Go.RowKit
attribute [local go_sem ↓] Go.wp_at_zero Go.wp_at_succ

/-- A script lies in memory. -/
def OpsAt (w : World) (a : Option Addr) (ops : List OpG) : Prop :=
  ∀ j (h : j < ops.length), ∃ g o, a = some ⟨g, o, none⟩ ∧ (∀ r, r < 17 → w.cell? ⟨g, o + j * 17 + r, none⟩ = ops[j].cells[r]?) ∧ LinesAt w ops[j].fa ops[j].f.lines

def OpG.small (o : OpG) : Prop := o.s.length ≤ 9000000 ∧ o.f.lines.length ≤ 10000000 ∧ o.f.lines.length ≤ o.fc

/-- A step's numbers are Go's. -/
def OpG.ranged (o : OpG) : Prop := -9223372036854775808 ≤ o.n ∧ o.n ≤ 9223372036854775807

theorem OpsAt.below {w w' : World} {a : Option Addr} {ops : List OpG} (h : OpsAt w a ops) (hb : Below w.heap.size w w') : OpsAt w' a ops := fun j hj => by
  obtain ⟨g, o, e, hc, hl⟩ := h j hj
  refine ⟨g, o, e, fun r hr => ?_, hl.below hb⟩
  have h0 := hc r hr
  have : ops[j].cells[r]? = some (ops[j].cells[r]'(by show r < 17; exact hr)) := Array.getElem?_eq_getElem _
  rw [this] at h0 ⊢
  exact (hb.cell (World.block_lt_of_cell? _ _ h0)).trans h0

theorem WI.start (w : World) (lead : Bool) (H : Nat → HG) : WI (w.alloc (.cells #[.slice none 0 0, .slice none 0 0, .bool lead] 81)) w.heap.size (.slice none 0 0) lead none 0 0 H :=
  ⟨heap_alloc_new w _, .inl ⟨rfl, rfl, rfl⟩, (fun e => by cases e), fun j hj => absurd hj (by omega), fun j hj => absurd hj (by omega), fun j hj => absurd hj (by omega), fun j hj => absurd hj (by omega)⟩

def HG.dull : HG := ⟨0, none, 0, 0, none, 0, 0, none, 0, 0, fun _ => 0, 0⟩

set_option maxRecDepth 100000 in
set_option maxHeartbeats 2000000 in
theorem playsF (HPS : PackSaid) (HUS : UnpackSaid) (w : World) (a : Option Addr) (cap : Nat) (ops : List OpG) (hops : OpsAt w a ops) (hsm : ∀ o ∈ ops, o.small) (hlen : ops.length ≤ 10000000) :
    Calls Tryz.prog 13 #[sla a ops.length cap, .int .i64 1, .int .i64 2, .bool false] w fun e y => e = .returned (.int .i64 (-1)) ∧ Below w.heap.size w y := by
  have HO := hid hops
  have HS := hid hsm
  clear hops hsm
  unfold sla
  go_enter Tryz.func13, Tryz.ntmps13
  go_wp2
  go_loopw [10] (fun i wr => ∃ k : Nat, k ≤ ops.length ∧ i = .int .i64 k ∧ Hid (∃ (n : Nat) (gh : Option Nat) (cp : Nat) (H : Nat → HG), n ≤ 8 * k ∧ WI wr w.heap.size (.slice none 0 0) false gh n cp H ∧ (∀ q, gh = some q → w.heap.size ≤ q) ∧ Below w.heap.size w wr)) (fun i _ => ops.length - (intOf i).toNat)
  case atStart => exact ⟨0, Nat.zero_le _, rfl, 0, none, 0, fun _ => HG.dull, by omega, WI.start _ _ _, (fun _ e => by cases e), (Below.refl _ _).alloc (Nat.le_refl _) _⟩
  case round =>
    obtain ⟨k, hk, rfl, HI⟩ := hrel
    by_cases hlt : k < ops.length
    · obtain ⟨n, gh, cp, H, hn, hw, hg, hb⟩ := HI.out
      obtain ⟨g, o, rfl, hc, hl⟩ := (HO.out.below hb) k hlt
      have hso := HS.out ops[k] (List.getElem_mem hlt)
      have HW := hid hw
      have HG := hid hg
      have HB := hid hb
      have HLN := hid hl
      have b1 : (0 : Int) ≤ (k : Int) := by omega
      have b2 : (k : Int) < (ops.length : Int) := by omega
      generalize ops[k] = op at hc hso HLN
      have z0 : wr.cell? ⟨g, o + k * 17, none⟩ = some (.int .i64 op.kind) := hc 0 (by omega)
      have z1 : wr.cell? ⟨g, o + k * 17 + 1, none⟩ = some (.int .i64 op.n) := hc 1 (by omega)
      have z2 : wr.cell? ⟨g, o + k * 17 + 2, none⟩ = some (.string ⟨op.s.toArray⟩) := hc 2 (by omega)
      have z3 : wr.cell? ⟨g, o + k * 17 + 3, none⟩ = some (.int .i64 op.f.kind) := hc 3 (by omega)
      have z4 : wr.cell? ⟨g, o + k * 17 + 4, none⟩ = some (.int .i64 op.f.frm) := hc 4 (by omega)
      have z5 : wr.cell? ⟨g, o + k * 17 + 5, none⟩ = some (.int .i64 op.f.view) := hc 5 (by omega)
      have z6 : wr.cell? ⟨g, o + k * 17 + 6, none⟩ = some (.int .i64 op.f.place) := hc 6 (by omega)
      have z7 : wr.cell? ⟨g, o + k * 17 + 7, none⟩ = some (.int .i64 op.f.agreed) := hc 7 (by omega)
      have z8 : wr.cell? ⟨g, o + k * 17 + 8, none⟩ = some (.int .i64 op.f.last) := hc 8 (by omega)
      have z9 : wr.cell? ⟨g, o + k * 17 + 9, none⟩ = some (.int .i64 op.f.line.c) := hc 9 (by omega)
      have z10 : wr.cell? ⟨g, o + k * 17 + 10, none⟩ = some (.int .i64 op.f.line.t) := hc 10 (by omega)
      have z11 : wr.cell? ⟨g, o + k * 17 + 11, none⟩ = some (.string ⟨op.f.line.s.toArray⟩) := hc 11 (by omega)
      have z12 : wr.cell? ⟨g, o + k * 17 + 12, none⟩ = some (sla op.fa op.f.lines.length op.fc) := hc 12 (by omega)
      have z13 : wr.cell? ⟨g, o + k * 17 + 13, none⟩ = some (.int .i64 op.c1) := hc 13 (by omega)
      have z14 : wr.cell? ⟨g, o + k * 17 + 14, none⟩ = some (.int .i64 op.c2) := hc 14 (by omega)
      have z15 : wr.cell? ⟨g, o + k * 17 + 15, none⟩ = some (.int .i64 op.c3) := hc 15 (by omega)
      have z16 : wr.cell? ⟨g, o + k * 17 + 16, none⟩ = some (.int .i64 op.a) := hc 16 (by omega)
      clear hc hw hg hb hl
      rcases Int.lt_or_le op.kind 1 with h1 | h1
      · go_wp2
        go_roundw
        case rel =>
          first
          | exact ⟨k + 1, by omega, by go_num, n, gh, cp, H, by omega, HW.out, HG.out, HB.out⟩
          | ((repeat apply Exists.intro); refine ⟨?_, rfl⟩; exact ⟨k + 1, by omega, by go_num, n, gh, cp, H, by omega, HW.out, HG.out, HB.out⟩)
        case measure => simp [intOf]; omega
      rcases Int.lt_or_le 2 op.kind with h2 | h2
      · go_wp2
        go_roundw
        case rel =>
          first
          | exact ⟨k + 1, by omega, by go_num, n, gh, cp, H, by omega, HW.out, HG.out, HB.out⟩
          | ((repeat apply Exists.intro); refine ⟨?_, rfl⟩; exact ⟨k + 1, by omega, by go_num, n, gh, cp, H, by omega, HW.out, HG.out, HB.out⟩)
        case measure => simp [intOf]; omega
      go_wp2_with fail
      refine (stepF HPS HUS _ w.heap.size _ _ gh n cp H HW.out (by omega) op (by omega) hso.1 HLN.out hso.2.1 hso.2.2).mono ?_
      rintro e y ⟨rfl, hst⟩
      obtain ⟨⟨gh', cp', H', W', gl⟩, t⟩ := hst
      have HW' := hid W'
      have HGL := hid gl
      have HT := hid t
      clear W' gl t
      go_wp2_with fail
      refine (HW'.out.looks (by omega)).mono ?_
      rintro e z ⟨rfl, hbz⟩
      have HBZ := hid hbz
      clear hbz
      go_wp2
      go_roundw
      case rel =>
        have hsz := HB.out.size
        have tb : Below w.heap.size wr y := HT.out.below hsz (fun q hq e => by
          rcases e with e | e
          · omega
          · exact HG.out q e)
        refine ⟨k + 1, by omega, by go_num, n + 8, gh', cp', H', by omega, HW'.out.below HBZ.out, fun q e => ?_, (HB.out.trans tb).trans (HBZ.out.mono (by have := (HB.out.trans tb).size; omega))⟩
        rcases HGL.out q e with e | e
        · exact HG.out q e
        · omega
      case measure => simp [intOf]; omega
    · go_wp2
      go_ret
      obtain ⟨n, gh, cp, H, hn, hw, hg, hb⟩ := HI.out
      exact ⟨rfl, hb⟩

end Go.Proofs.YtolififimldmlaaGreat

set_option linter.unusedVariables false
set_option linter.unusedSimpArgs false
namespace Go.Proofs.YtolififimldmlaaGreat

theorem fold_set (l : List Value) : ∀ (off j : Nat) (pre rest : List Value), pre.length = off + j → l.length ≤ rest.length →
    (l.zipIdx j).foldl (fun (cs : Array Value) p => cs.setIfInBounds (off + p.2) p.1) (pre ++ rest).toArray = (pre ++ l ++ rest.drop l.length).toArray := by
  induction l with
  | nil => intro off j pre rest _ _; simp
  | cons a l ih =>
    intro off j pre rest h1 h2
    cases rest with
    | nil => simp at h2
    | cons r rest =>
      rw [List.zipIdx_cons, List.foldl_cons]
      have e : (pre ++ r :: rest).toArray.setIfInBounds (off + j) a = ((pre ++ [a]) ++ rest).toArray := by
        rw [List.setIfInBounds_toArray, ← h1, List.set_append_right _ _ (Nat.le_refl _), Nat.sub_self, List.set_cons_zero, List.append_assoc]; rfl
      show List.foldl _ ((pre ++ r :: rest).toArray.setIfInBounds (off + j) a) _ = _
      rw [e, ih off (j + 1) (pre ++ [a]) rest (by simp; omega) (by simpa using h2)]
      simp

theorem fill_rows (size : Nat) (cs : List (Array Value)) : ∀ (k : Nat) (pre rest : List Value), pre.length = k * size → rest.length = cs.length * size → (∀ c ∈ cs, c.size = size) →
    Instr.fill (fun i => some (i * size, size)) (pre ++ rest).toArray ((cs.zipIdx k).map fun x => (x.2, Value.agg x.1)) = some (pre ++ cs.flatMap (·.toList)).toArray := by
  induction cs with
  | nil => intro k pre rest h1 h2 _; simp at h2; subst h2; simp [Instr.fill]
  | cons c cs ih =>
    intro k pre rest h1 h2 h3
    have hc : c.size = size := h3 c (by simp)
    rw [List.length_cons, Nat.succ_mul] at h2
    rw [List.zipIdx_cons, List.map_cons]
    unfold Instr.fill
    have hv : (Value.agg c).cells = c := rfl
    simp only [hv, hc]
    rw [if_neg (by simp; omega)]
    have e : c.zipIdx.foldl (fun (cs : Array Value) (x : Value × Nat) => cs.setIfInBounds (k * size + x.2) x.1) (pre ++ rest).toArray = (pre ++ c.toList ++ rest.drop size).toArray := by
      rw [← Array.foldl_toList, Array.toList_zipIdx, fold_set c.toList (k * size) 0 pre rest (by omega) (by simp; omega)]
      simp [hc]
    have := ih (k + 1) (pre ++ c.toList) (rest.drop size) (by simp [hc, h1, Nat.succ_mul]) (by simp; omega) (fun c' h' => h3 c' (by simp [h']))
    rw [List.flatMap_cons, ← List.append_assoc, ← this, ← e]

end Go.Proofs.YtolififimldmlaaGreat
