import Derived.Test.YtolififimldmlaaGreatPart23
import Derived.Test.YtolififimldmlaaGreatPart10
set_option linter.unusedVariables false
set_option linter.unusedSimpArgs false
namespace Go.Proofs.YtolififimldmlaaGreat
open Go.RowKit
attribute [local go_sem ↓] Go.wp_at_zero Go.wp_at_succ

/-- How a program's keeper lies in memory: its block, all blocks that are its own, what it is. -/
abbrev KeeperIs := World → Nat → (Nat → Prop) → LK → Prop

/-- What the program's Open must do. -/
def OpenSaid (KIs : KeeperIs) : Prop := ∀ (kp me pa : Int) (s : List UInt8) (g0 cap : Nat) (w : World), BytesIn w (some ⟨g0, 0, none⟩) s → s.length ≤ 10000000 → s.length ≤ cap →
  Calls Tryz.prog 25 #[.agg #[.int .i64 kp, .int .i64 me, .int .i64 pa], .slice (some ⟨g0, 0, none⟩) s.length cap] w fun e w' =>
    Below w.heap.size w w' ∧ ((¬ ConfOk kp me pa ∧ e = .returned (.tuple #[.pointer none, .int .i64 1])) ∨
      (ConfOk kp me pa ∧ ∃ K F, e = .returned (.tuple #[.pointer (some ⟨K, 0, none⟩), .int .i64 0]) ∧ KIs w' K F (LK.opened kp me pa (s.take (readD s).2) (readD s).1) ∧ ∀ k, F k → w.heap.size ≤ k ∧ k < w'.heap.size))

/-- A keeper stays as it is if nothing of its own is touched. -/
def KeepsSaid (KIs : KeeperIs) : Prop := ∀ (T : Nat → Prop) (w w' : World) (K : Nat) (F : Nat → Prop) (s : LK), KIs w K F s → Touch T w w' → (∀ k, F k → ¬ T k) → KIs w' K F s

theorem RefOpened.no {w w' : World} {kp me pa : Int} {s : List UInt8} {e : Ending} (h : RefOpened w kp me pa s e w') (hc : ¬ ConfOk kp me pa) : Below w.heap.size w w' ∧ e = .returned (.tuple #[.pointer none, .int .i64 1]) := by
  obtain ⟨hb, h | h⟩ := h
  · exact ⟨hb, h.2⟩
  · exact absurd h.1 hc
theorem refOpen_any (kp me pa : Int) (s : List UInt8) (w : World) (hn : s.length ≤ 10000000) : Calls Tryz.prog 148 #[.agg #[.int .i64 kp, .int .i64 me, .int .i64 pa], .string ⟨s.toArray⟩] w (RefOpened w kp me pa s) := by
  by_cases hc : ConfOk kp me pa
  · exact refOpen_yes kp me pa s w hc hn
  · exact refOpen_no kp me pa s w hc

/-- What a step leaves of the law's world: what was free of it is so still. -/
structure Stays (x : World) (W : Nat) (psv : Value) (lead : Bool) (gh : Option Nat) (n m : Nat) (H : Nat → HG) (y : World) (N : Nat → Prop) : Prop where
  ex : ∃ gh' cap' H', WI y W psv lead gh' (n + m) cap' H' ∧ (∀ k, gh' = some k → gh = some k ∨ x.heap.size ≤ k) ∧ (∀ k, k < x.heap.size → Free W gh n H k → Free W gh' (n + m) H' k) ∧ (∀ k, N k → Free W gh' (n + m) H' k)
  tch : Touch (fun k => k = W ∨ gh = some k) x y

set_option maxRecDepth 100000 in
set_option maxHeartbeats 4000000 in
theorem opened_no (KIs : KeeperIs) (HOS : OpenSaid KIs) (x : World) (W : Nat) (psv : Value) (lead : Bool) (gh : Option Nat) (n cap : Nat) (H : Nat → HG) (hw : WI x W psv lead gh n cap H) (hn : n ≤ 99000000)
    (kp me pa : Int) (l : List UInt8) (hsl : l.length ≤ 9900000) (hc : ¬ ConfOk kp me pa) :
    Calls Tryz.prog 99 #[.pointer (some ⟨W, 0, none⟩), .agg #[.int .i64 kp, .int .i64 me, .int .i64 pa], .string ⟨l.toArray⟩] x fun e y => e = .returned (.tuple #[.pointer none, .bool true]) ∧ Stays x W psv lead gh n 4 H y (fun _ => False) := by
  have HWI := hid hw
  have HC := hid hc
  clear hw hc
  go_enter Tryz.func99, Tryz.ntmps99
  go_wp2_with fail
  refine (lent_any l _ (by omega)).mono ?_
  rintro e X1 ⟨rfl, hle, hb1⟩
  rw [World.size_alloc] at hle hb1
  have HLE := hid hle
  have hs1 : x.heap.size + 1 < X1.heap.size := hle.own.lt rfl
  have hs1b : x.heap.size < X1.heap.size := by omega
  have HX1 : Hid (Below x.heap.size x X1) := ((Below.refl _ x).alloc (Nat.le_refl _) _).trans (hb1.mono (by omega))
  have HCB : Hid (MBox x.heap.size 63 (.int .i64 kp) (.int .i64 me) (.int .i64 pa) X1) := by
    show _ = _
    rw [hb1.block _ (by omega)]; exact heap_alloc_new x _
  have b1 : (0 : Int) ≤ (l.length : Int) := by omega
  have b2 : (l.length : Int) ≤ (l.length : Int) + 8 := by omega
  clear hle hb1
  obtain ⟨c0, c1, c2, fc⟩ := mbox_cells HCB.out
  go_wp2
  refine wp_region_any (by kernel_rfl) ?_
  try (change wpAny _ _ _ _ _ _ _ (World.drew _))
  refine wpAny_take (i := 1) (v := ?rv1) rfl (by kernel_rfl) (by kernel_rfl) (by kernel_rfl) (fun _ _ _ h => h) (Or.inl ⟨by rfl, ?ry1⟩) ?rr1
  case ry1 => (intro w; go_simp; try with_reducible rfl)
  try simp only [List.getElem_toArray, List.getElem_cons_zero, List.getElem_cons_succ, Act.put, List.setIfInBounds_toArray, List.set_cons_zero, List.set_cons_succ]
  refine wpAny_take (i := 2) (v := ?rv2) rfl (by kernel_rfl) (by kernel_rfl) (by kernel_rfl) (fun _ _ _ h => h) (Or.inl ⟨by rfl, ?ry2⟩) ?rr2
  case ry2 => (intro w; go_simp; try with_reducible rfl)
  try simp only [List.getElem_toArray, List.getElem_cons_zero, List.getElem_cons_succ, Act.put, List.setIfInBounds_toArray, List.set_cons_zero, List.set_cons_succ]
  refine wpAny_take (i := 3) (v := ?rv3) rfl (by kernel_rfl) (by kernel_rfl) (by kernel_rfl) (fun _ _ _ h => h) (Or.inl ⟨by rfl, ?ry3⟩) ?rr3
  case ry3 => (intro w; go_simp; try with_reducible rfl)
  try simp only [List.getElem_toArray, List.getElem_cons_zero, List.getElem_cons_succ, Act.put, List.setIfInBounds_toArray, List.set_cons_zero, List.set_cons_succ]
  refine wpAny_take (i := 4) (v := ?rv4) rfl (by kernel_rfl) (by kernel_rfl) (by kernel_rfl) (fun _ _ _ h => h) (Or.inl ⟨by rfl, ?ry4⟩) ?rr4
  case ry4 => (intro w; go_simp; try with_reducible rfl)
  try simp only [List.getElem_toArray, List.getElem_cons_zero, List.getElem_cons_succ, Act.put, List.setIfInBounds_toArray, List.set_cons_zero, List.set_cons_succ]
  refine wpAny_ready (rs := [0]) (by kernel_rfl) (by simp) ?_
  refine AllReady.cons rfl (fun K hK => ?_) AllReady.nil
  go_simp
  refine hK _ _ ?_
  clear hK K
  refine wpAny_ready (rs := [5]) (by kernel_rfl) (by simp) ?_
  refine AllReady.cons rfl (fun K hK => ?_) AllReady.nil
  go_simp
  refine (HOS kp me pa l (x.heap.size + 1) (l.length + 8) _ (fun j hj => ⟨_, _, rfl, by rw [Nat.zero_add]; exact HLE.out.at_ j hj⟩) (by omega) (by omega)).mono ?_
  rintro e X2 ⟨hb2, h2⟩
  rcases h2 with ⟨_, rfl⟩ | ⟨hcc, _⟩
  · have hb12 : Below X1.heap.size X1 X2 := (Below.refl _ X1).drew.trans hb2
    have HLE2 := hid (HLE.out.below hb12)
    have HX2 := hid (HX1.out.trans (hb12.mono HX1.out.size))
    have HCB2 := hid (HCB.out.below hb12)
    have hz2 : X1.heap.size ≤ X2.heap.size := hb12.size
    clear hb2 hb12 c0 c1 c2 fc
    obtain ⟨c0, c1, c2, fc⟩ := mbox_cells HCB2.out
    go_simp
    refine hK _ _ ?_
    clear hK K
    refine wpAny_take (i := 6) (v := ?rv5) rfl (by kernel_rfl) (by kernel_rfl) (by kernel_rfl) (fun _ _ _ h => h) (Or.inl ⟨by rfl, ?ry5⟩) ?rr5
    case ry5 => (intro w; go_simp; try with_reducible rfl)
    try simp only [List.getElem_toArray, List.getElem_cons_zero, List.getElem_cons_succ, Act.put, List.setIfInBounds_toArray, List.set_cons_zero, List.set_cons_succ]
    refine wpAny_take (i := 7) (v := ?rv6) rfl (by kernel_rfl) (by kernel_rfl) (by kernel_rfl) (fun _ _ _ h => h) (Or.inl ⟨by rfl, ?ry6⟩) ?rr6
    case ry6 => (intro w; go_simp; try with_reducible rfl)
    try simp only [List.getElem_toArray, List.getElem_cons_zero, List.getElem_cons_succ, Act.put, List.setIfInBounds_toArray, List.set_cons_zero, List.set_cons_succ]
    refine wpAny_take (i := 8) (v := ?rv7) rfl (by kernel_rfl) (by kernel_rfl) (by kernel_rfl) (fun _ _ _ h => h) (Or.inl ⟨by rfl, ?ry7⟩) ?rr7
    case ry7 => (intro w; go_simp; try with_reducible rfl)
    try simp only [List.getElem_toArray, List.getElem_cons_zero, List.getElem_cons_succ, Act.put, List.setIfInBounds_toArray, List.set_cons_zero, List.set_cons_succ]
    refine wpAny_ready (rs := [9]) (by kernel_rfl) (by simp) ?_
    refine AllReady.cons rfl (fun K hK => ?_) AllReady.nil
    go_simp
    refine hK _ _ ?_
    clear hK K
    refine wpAny_ready (rs := [10]) (by kernel_rfl) (by simp) ?_
    refine AllReady.cons rfl (fun K hK => ?_) AllReady.nil
    go_simp
    refine hK _ _ ?_
    clear hK K
    refine wpAny_done (by kernel_rfl) ?_ _
    go_wp2_with fail
    refine (refOpen_any kp me pa l _ (by omega)).mono ?_
    intro e X3 h3
    obtain ⟨hb3, rfl⟩ := h3.no HC.out
    have HLE3 := hid (HLE2.out.below hb3)
    have HX3 := hid (HX2.out.trans (hb3.mono HX2.out.size))
    have hz3 : X2.heap.size ≤ X3.heap.size := hb3.size
    clear h3 hb3 c0 c1 c2 fc
    go_wp2_with fail
    refine (still_any l (x.heap.size + 1) (l.length + 8) _ (by omega) HLE3.out).mono ?_
    rintro e X5 ⟨rfl, hb5⟩
    have HLE5 := hid (HLE3.out.below hb5)
    have HX5 := hid (HX3.out.trans (hb5.mono HX3.out.size))
    have hz5 : X3.heap.size ≤ X5.heap.size := hb5.size
    clear hb5
    have WY := hid (HWI.out.below HX5.out)
    go_wp2_with fail
    refine (keep_hold X5 W psv lead gh n cap H WY.out (some (x.heap.size + 1)) none none (l.length + 8) (l.length + 8) 0 0 0 0 HLE5.out.own (.inl ⟨rfl, rfl, rfl⟩) (.inl ⟨rfl, rfl, rfl⟩) (fun g _ e => by cases e) (fun g _ e => by cases e) (fun g e => by cases e)
      (fun k' e => HWI.out.free_new (by rcases e with e | e | e; (cases e; omega); cases e; cases e)) (by omega) (by omega) (by omega) (by omega)).mono ?_
    rintro e Y1 ⟨rfl, K1⟩
    obtain ⟨⟨gh1, cap1, H1, W1, gg1, f1⟩, t1⟩ := K1
    have ST : Hid (Stays x W psv lead gh n 4 H Y1 (fun _ => False)) := by
      refine ⟨⟨gh1, cap1, H1, W1, fun k e => ?_, fun k hk hf => f1 k (by omega) hf (fun t => ?_), fun k e => e.elim⟩, ?_⟩
      · rcases gg1 k e with e | e
        · exact .inl e
        · exact .inr (by omega)
      · rcases t with t | t | t
        · have := Option.some.inj t; omega
        · cases t
        · cases t
      · refine (Touch.of_belowAll HX5.out _).trans t1 (fun i hi t => ?_)
        rcases t with t | t | t | t | t
        · exact .inl t
        · exact .inr t
        · have := Option.some.inj t; omega
        · cases t
        · cases t
    clear W1 gg1 f1 t1
    go_wp2
    go_ret2
    exact ⟨rfl, ST.out⟩
  · exact absurd hcc HC.out

/-- A player lies there: a keeper and the document's; N: all blocks of both. -/
def Player (KIs : KeeperIs) (y : World) (p : Nat) (N : Nat → Prop) (s : LK) : Prop :=
  ∃ K F Kr G, y.heap[p]? = some (.cells #[.pointer (some ⟨K, 0, none⟩), .pointer (some ⟨Kr, 0, none⟩)] 121 (0, 0)) ∧ KIs y K F s ∧ RIs y Kr G s ∧ ∀ k, N k ↔ (k = p ∨ F k ∨ G k)
theorem Player.touch {KIs : KeeperIs} (HKS : KeepsSaid KIs) {T : Nat → Prop} {y z : World} {p : Nat} {N : Nat → Prop} {s : LK} (h : Player KIs y p N s) (ht : Touch T y z) (hn : ∀ k, N k → ¬ T k) : Player KIs z p N s := by
  obtain ⟨K, F, Kr, G, h1, h2, h3, h5⟩ := h
  exact ⟨K, F, Kr, G, ht.heapAt h1 (hn p ((h5 p).2 (.inl rfl))), HKS _ _ _ _ _ _ h2 ht (fun k hk => hn k ((h5 k).2 (.inr (.inl hk)))), h3.touch ht (fun k hk => hn k ((h5 k).2 (.inr (.inr hk)))), h5⟩

set_option maxRecDepth 100000 in
set_option maxHeartbeats 4000000 in
theorem opened_yes (KIs : KeeperIs) (HOS : OpenSaid KIs) (HKS : KeepsSaid KIs) (x : World) (W : Nat) (psv : Value) (lead : Bool) (gh : Option Nat) (n cap : Nat) (H : Nat → HG) (hw : WI x W psv lead gh n cap H) (hn : n ≤ 99000000)
    (kp me pa : Int) (l : List UInt8) (hsl : l.length ≤ 9900000) (hc : ConfOk kp me pa) :
    Calls Tryz.prog 99 #[.pointer (some ⟨W, 0, none⟩), .agg #[.int .i64 kp, .int .i64 me, .int .i64 pa], .string ⟨l.toArray⟩] x fun e y => ∃ p N, e = .returned (.tuple #[.pointer (some ⟨p, 0, none⟩), .bool true]) ∧ Player KIs y p N (LK.opened kp me pa (l.take (readD l).2) (readD l).1) ∧ (∀ k, N k → x.heap.size ≤ k ∧ k < y.heap.size) ∧ Stays x W psv lead gh n 4 H y N := by
  have HWI := hid hw
  have HC := hid hc
  clear hw hc
  go_enter Tryz.func99, Tryz.ntmps99
  go_wp2_with fail
  refine (lent_any l _ (by omega)).mono ?_
  rintro e X1 ⟨rfl, hle, hb1⟩
  rw [World.size_alloc] at hle hb1
  have HLE := hid hle
  have hs1 : x.heap.size + 1 < X1.heap.size := hle.own.lt rfl
  have hs1b : x.heap.size < X1.heap.size := by omega
  have HX1 : Hid (Below x.heap.size x X1) := ((Below.refl _ x).alloc (Nat.le_refl _) _).trans (hb1.mono (by omega))
  have HCB : Hid (MBox x.heap.size 63 (.int .i64 kp) (.int .i64 me) (.int .i64 pa) X1) := by
    show _ = _
    rw [hb1.block _ (by omega)]; exact heap_alloc_new x _
  have b1 : (0 : Int) ≤ (l.length : Int) := by omega
  have b2 : (l.length : Int) ≤ (l.length : Int) + 8 := by omega
  clear hle hb1
  obtain ⟨c0, c1, c2, fc⟩ := mbox_cells HCB.out
  go_wp2
  refine wp_region_any (by kernel_rfl) ?_
  try (change wpAny _ _ _ _ _ _ _ (World.drew _))
  refine wpAny_take (i := 1) (v := ?rv8) rfl (by kernel_rfl) (by kernel_rfl) (by kernel_rfl) (fun _ _ _ h => h) (Or.inl ⟨by rfl, ?ry8⟩) ?rr8
  case ry8 => (intro w; go_simp; try with_reducible rfl)
  try simp only [List.getElem_toArray, List.getElem_cons_zero, List.getElem_cons_succ, Act.put, List.setIfInBounds_toArray, List.set_cons_zero, List.set_cons_succ]
  refine wpAny_take (i := 2) (v := ?rv9) rfl (by kernel_rfl) (by kernel_rfl) (by kernel_rfl) (fun _ _ _ h => h) (Or.inl ⟨by rfl, ?ry9⟩) ?rr9
  case ry9 => (intro w; go_simp; try with_reducible rfl)
  try simp only [List.getElem_toArray, List.getElem_cons_zero, List.getElem_cons_succ, Act.put, List.setIfInBounds_toArray, List.set_cons_zero, List.set_cons_succ]
  refine wpAny_take (i := 3) (v := ?rv10) rfl (by kernel_rfl) (by kernel_rfl) (by kernel_rfl) (fun _ _ _ h => h) (Or.inl ⟨by rfl, ?ry10⟩) ?rr10
  case ry10 => (intro w; go_simp; try with_reducible rfl)
  try simp only [List.getElem_toArray, List.getElem_cons_zero, List.getElem_cons_succ, Act.put, List.setIfInBounds_toArray, List.set_cons_zero, List.set_cons_succ]
  refine wpAny_take (i := 4) (v := ?rv11) rfl (by kernel_rfl) (by kernel_rfl) (by kernel_rfl) (fun _ _ _ h => h) (Or.inl ⟨by rfl, ?ry11⟩) ?rr11
  case ry11 => (intro w; go_simp; try with_reducible rfl)
  try simp only [List.getElem_toArray, List.getElem_cons_zero, List.getElem_cons_succ, Act.put, List.setIfInBounds_toArray, List.set_cons_zero, List.set_cons_succ]
  refine wpAny_ready (rs := [0]) (by kernel_rfl) (by simp) ?_
  refine AllReady.cons rfl (fun K hK => ?_) AllReady.nil
  go_simp
  refine hK _ _ ?_
  clear hK K
  refine wpAny_ready (rs := [5]) (by kernel_rfl) (by simp) ?_
  refine AllReady.cons rfl (fun K hK => ?_) AllReady.nil
  go_simp
  refine (HOS kp me pa l (x.heap.size + 1) (l.length + 8) _ (fun j hj => ⟨_, _, rfl, by rw [Nat.zero_add]; exact HLE.out.at_ j hj⟩) (by omega) (by omega)).mono ?_
  rintro e X2 ⟨hb2, h2⟩
  rcases h2 with ⟨hcc, _⟩ | ⟨_, K', F, rfl, hk2, hF2⟩
  · exact absurd HC.out hcc
  · have hb12 : Below X1.heap.size X1 X2 := (Below.refl _ X1).drew.trans hb2
    have HLE2 := hid (HLE.out.below hb12)
    have HX2 := hid (HX1.out.trans (hb12.mono HX1.out.size))
    have HCB2 := hid (HCB.out.below hb12)
    have hz2 : X1.heap.size ≤ X2.heap.size := hb12.size
    have HK2 := hid hk2
    have HF2 : Hid (∀ k, F k → X1.heap.size ≤ k ∧ k < X2.heap.size) := hF2
    clear hb2 hb12 c0 c1 c2 fc hk2 hF2
    obtain ⟨c0, c1, c2, fc⟩ := mbox_cells HCB2.out
    go_simp
    refine hK _ _ ?_
    clear hK K
    refine wpAny_take (i := 6) (v := ?rv12) rfl (by kernel_rfl) (by kernel_rfl) (by kernel_rfl) (fun _ _ _ h => h) (Or.inl ⟨by rfl, ?ry12⟩) ?rr12
    case ry12 => (intro w; go_simp; try with_reducible rfl)
    try simp only [List.getElem_toArray, List.getElem_cons_zero, List.getElem_cons_succ, Act.put, List.setIfInBounds_toArray, List.set_cons_zero, List.set_cons_succ]
    refine wpAny_take (i := 7) (v := ?rv13) rfl (by kernel_rfl) (by kernel_rfl) (by kernel_rfl) (fun _ _ _ h => h) (Or.inl ⟨by rfl, ?ry13⟩) ?rr13
    case ry13 => (intro w; go_simp; try with_reducible rfl)
    try simp only [List.getElem_toArray, List.getElem_cons_zero, List.getElem_cons_succ, Act.put, List.setIfInBounds_toArray, List.set_cons_zero, List.set_cons_succ]
    refine wpAny_take (i := 8) (v := ?rv14) rfl (by kernel_rfl) (by kernel_rfl) (by kernel_rfl) (fun _ _ _ h => h) (Or.inl ⟨by rfl, ?ry14⟩) ?rr14
    case ry14 => (intro w; go_simp; try with_reducible rfl)
    try simp only [List.getElem_toArray, List.getElem_cons_zero, List.getElem_cons_succ, Act.put, List.setIfInBounds_toArray, List.set_cons_zero, List.set_cons_succ]
    refine wpAny_ready (rs := [9]) (by kernel_rfl) (by simp) ?_
    refine AllReady.cons rfl (fun K hK => ?_) AllReady.nil
    go_simp
    refine hK _ _ ?_
    clear hK K
    refine wpAny_ready (rs := [10]) (by kernel_rfl) (by simp) ?_
    refine AllReady.cons rfl (fun K hK => ?_) AllReady.nil
    go_simp
    refine hK _ _ ?_
    clear hK K
    refine wpAny_done (by kernel_rfl) ?_ _
    go_wp2_with fail
    refine (refOpen_yes kp me pa l _ HC.out (by omega)).mono ?_
    rintro e X3 ⟨hb3, h3⟩
    rcases h3 with ⟨hcc, _⟩ | ⟨_, Kr, g, c, rfl, hr3, ho3, hKr, hgK⟩
    · exact absurd HC.out hcc
    have HLE3 := hid (HLE2.out.below hb3)
    have HX3 := hid (HX2.out.trans (hb3.mono HX2.out.size))
    have hz3 : X2.heap.size ≤ X3.heap.size := hb3.size
    have HK3 := hid (HKS _ _ _ _ _ _ HK2.out (Touch.of_belowAll hb3 (fun _ => False)) (fun _ _ h => h))
    have HR3 := hid hr3
    have HO3 := hid ho3
    have hKr3 : Kr < X3.heap.size := heap_lt hr3
    have HKR : Hid (X2.heap.size ≤ Kr ∧ ∀ k, g = some k → X2.heap.size ≤ k) := ⟨hKr, ho3.new⟩
    clear hb3 c0 c1 c2 fc hr3 ho3 hKr hgK
    go_wp2_with fail
    refine (still_any l (x.heap.size + 1) (l.length + 8) _ (by omega) HLE3.out).mono ?_
    rintro e X5 ⟨rfl, hb5⟩
    have HLE5 := hid (HLE3.out.below hb5)
    have HX5 := hid (HX3.out.trans (hb5.mono HX3.out.size))
    have hz5 : X3.heap.size ≤ X5.heap.size := hb5.size
    have HK5 := hid (HKS _ _ _ _ _ _ HK3.out (Touch.of_belowAll hb5 (fun _ => False)) (fun _ _ h => h))
    have HR5 := hid ((hb5.block _ hKr3).trans HR3.out)
    have HO5 := hid (HO3.out.below hb5)
    have HOC : Hid ((readD l).1.ls.length ≤ c) := HO3.out.cap
    clear hb5
    have WY := hid (HWI.out.below HX5.out)
    have HWl := hid (heap_lt HWI.out.wb)
    have HGl : Hid (∀ k, gh = some k → k < x.heap.size) := fun k e => HWI.out.ow.lt e
    go_wp2_with fail
    refine (keep_hold X5 W psv lead gh n cap H WY.out (some (x.heap.size + 1)) none none (l.length + 8) (l.length + 8) 0 0 0 0 HLE5.out.own (.inl ⟨rfl, rfl, rfl⟩) (.inl ⟨rfl, rfl, rfl⟩) (fun g _ e => by cases e) (fun g _ e => by cases e) (fun g e => by cases e)
      (fun k' e => HWI.out.free_new (by rcases e with e | e | e; (cases e; omega); cases e; cases e)) (by omega) (by omega) (by omega) (by omega)).mono ?_
    rintro e Y1 ⟨rfl, K1⟩
    obtain ⟨⟨gh1, cap1, H1, W1, gg1, f1⟩, t1⟩ := K1
    have far : ∀ k, X1.heap.size ≤ k → ¬ (k = W ∨ gh = some k ∨ (some (x.heap.size + 1) = some k ∨ (none : Option Nat) = some k ∨ (none : Option Nat) = some k)) := fun k hk t => by
      rcases t with t | t | t | t | t
      · have := HWl.out; omega
      · have := HGl.out k t; omega
      · have := Option.some.inj t; omega
      · cases t
      · cases t
    have HK6 := hid (HKS _ _ _ _ _ _ HK5.out t1 (fun k hk => far k (HF2.out k hk).1))
    have HR6 := hid (t1.heapAt HR5.out (far Kr (by have := HKR.out.1; omega)))
    have HO6 : Hid (LinesAt Y1 (g.map fun k => (⟨k, 0, none⟩ : Addr)) (readD l).1.ls) := HO5.out.at_.touch t1 (fun p e => by
      cases g with
      | none => cases e
      | some g0 => cases e; exact far g0 (by have := HKR.out.2 g0 rfl; omega))
    have hy : X5.heap.size ≤ Y1.heap.size := t1.size
    have HGLT : Hid (∀ k, g = some k → k < X5.heap.size) := fun k e => HO5.out.own.lt e
    have ST : Hid (Stays x W psv lead gh n 4 H (Y1.alloc (.cells #[.pointer (some ⟨K', 0, none⟩), .pointer (some ⟨Kr, 0, none⟩)] 121)) (fun k => k = Y1.heap.size ∨ F k ∨ k = Kr ∨ g = some k)) := by
      have fr1 : ∀ k, X1.heap.size ≤ k → k < X5.heap.size → Free W gh1 (n + 4) H1 k := fun k h1 h2 => f1 k h2 (HWI.out.free_new (by omega)) (fun t => by
        rcases t with t | t | t
        · have := Option.some.inj t; omega
        · cases t
        · cases t)
      refine ⟨⟨gh1, cap1, H1, W1.alloc _, fun k e => ?_, fun k hk hf => f1 k (by omega) hf (fun t => ?_), fun k e => ?_⟩, ?_⟩
      · rcases gg1 k e with e | e
        · exact .inl e
        · exact .inr (by omega)
      · rcases t with t | t | t
        · have := Option.some.inj t; omega
        · cases t
        · cases t
      · rcases e with e | e | e | e
        · subst e; exact W1.free_new (Nat.le_refl _)
        · have := HF2.out k e; exact fr1 k this.1 (by omega)
        · subst e; have := HKR.out.1; exact fr1 _ (by omega) (by omega)
        · have := HKR.out.2 k e; have := HGLT.out k e; exact fr1 k (by omega) this
      · refine ((Touch.of_belowAll HX5.out _).trans t1 (fun i hi t => ?_)).alloc _
        rcases t with t | t | t | t | t
        · exact .inl t
        · exact .inr t
        · have := Option.some.inj t; omega
        · cases t
        · cases t
    clear W1 gg1 f1 t1 far
    go_wp2
    go_ret2
    refine ⟨Y1.heap.size, _, rfl, ⟨K', F, Kr, _, heap_alloc_new Y1 _, ?_, RIs.opened (g := g) (c := c) ?_ ?_ HOC.out, fun k => Iff.rfl⟩, fun k e => ?_, ST.out⟩
    · exact HKS _ _ _ _ _ _ HK6.out ((Touch.refl (fun _ => False) Y1).alloc _) (fun _ _ h => h)
    · exact alloc_keep1 HR6.out
    · exact HO6.out.alloc _
    · rw [World.size_alloc]
      rcases e with e | e | e | e
      · omega
      · have := HF2.out k e; omega
      · have := HKR.out.1; omega
      · have := HKR.out.2 k e; have := HGLT.out k e; omega

end Go.Proofs.YtolififimldmlaaGreat

set_option linter.unusedVariables false
set_option linter.unusedSimpArgs false
namespace Go.Proofs.YtolififimldmlaaGreat
open Go.RowKit
attribute [local go_sem ↓] Go.wp_at_zero Go.wp_at_succ

/-- A player, as the script has made it: its block, all blocks of both keepers, what they are. -/
structure PG where
  p : Nat
  N : Nat → Prop
  s : LK

/-- All players lie there, and nothing of them is read or written by the law's own lists. -/
structure PS (KIs : KeeperIs) (Iv : LK → Prop) (x : World) (W : Nat) (gh : Option Nat) (n : Nat) (H : Nat → HG) (gp : Option Nat) (np cp : Nat) (P : Nat → PG) : Prop where
  own : OwnRow x 118 1 gp np cp
  ptr : ∀ j, j < np → ∃ g, gp = some g ∧ x.cell? ⟨g, j, none⟩ = some (.pointer (some ⟨(P j).p, 0, none⟩))
  pl : ∀ j, j < np → Player KIs x (P j).p (P j).N (P j).s
  lt : ∀ j, j < np → ∀ k, (P j).N k → k < x.heap.size
  fr : ∀ j, j < np → ∀ k, (P j).N k → Free W gh n H k ∧ gp ≠ some k
  frg : ∀ k, gp = some k → Free W gh n H k
  iv : ∀ j, j < np → Iv (P j).s

theorem PS.stays {KIs : KeeperIs} {Iv : LK → Prop} (HKS : KeepsSaid KIs) {x y : World} {W : Nat} {gh gh' : Option Nat} {n n' : Nat} {H H' : Nat → HG} {gp : Option Nat} {np cp : Nat} {P : Nat → PG} (h : PS KIs Iv x W gh n H gp np cp P)
    (ht : Touch (fun k => k = W ∨ gh = some k) x y) (hf : ∀ k, k < x.heap.size → Free W gh n H k → Free W gh' n' H' k) : PS KIs Iv y W gh' n' H' gp np cp P := by
  have no : ∀ k, Free W gh n H k → ¬ (k = W ∨ gh = some k) := fun k f t => by
    rcases t with t | t
    · exact f.1 t
    · exact f.2.1 t
  refine ⟨h.own.touch ht (fun k e => no k (h.frg k e)), fun j hj => ?_, fun j hj => (h.pl j hj).touch HKS ht (fun k hk => no k (h.fr j hj k hk).1), fun j hj k hk => Nat.lt_of_lt_of_le (h.lt j hj k hk) ht.size, fun j hj k hk => ⟨hf k (h.lt j hj k hk) (h.fr j hj k hk).1, (h.fr j hj k hk).2⟩, fun k e => hf k (h.own.lt e) (h.frg k e), h.iv⟩
  obtain ⟨g, e, c⟩ := h.ptr j hj
  exact ⟨g, e, ht.cell c (no g (h.frg g e))⟩

theorem PS.below {KIs : KeeperIs} {Iv : LK → Prop} (HKS : KeepsSaid KIs) {x y : World} {W : Nat} {gh : Option Nat} {n : Nat} {H : Nat → HG} {gp : Option Nat} {np cp : Nat} {P : Nat → PG} (h : PS KIs Iv x W gh n H gp np cp P) (hb : Below x.heap.size x y) : PS KIs Iv y W gh n H gp np cp P :=
  h.stays HKS (Touch.of_belowAll hb _) (fun _ _ f => f)

/-- The list of players in the law's world is another one. -/
theorem WI.setPs {x : World} {W : Nat} {psv : Value} {lead : Bool} {gh : Option Nat} {n cap : Nat} {H : Nat → HG} (h : WI x W psv lead gh n cap H) (v : Value) : WI (x.setCell ⟨W, 0, none⟩ v) W v lead gh n cap H := by
  have t : Touch (fun k => k = W) x (x.setCell ⟨W, 0, none⟩ v) := (Touch.refl (fun k => k = W) x).setCell (p := ⟨W, 0, none⟩) (fun _ => rfl) v
  have hwb := heap_setCell h.wb 0 v
  simp only [List.setIfInBounds_toArray, List.set_cons_zero] at hwb
  refine ⟨hwb, h.ow.touch t (fun k e e2 => h.hw (by rw [← e2]; exact e)), h.hw, fun j hj => ?_, fun j hj => (h.is j hj).foot (fun k i hf => ?_), h.sm, h.ap⟩
  · obtain ⟨g, e, c⟩ := h.ptr j hj
    exact ⟨g, e, t.cell c (fun e2 => h.hw (by rw [← e2]; exact e))⟩
  · exact World.cell?_of_block (t.block k ((h.is j hj).foot_lt hf) (fun e => (h.ap j hj k i hf).1 e))

/-- Which of n things a raw number speaks of. -/
def pickN (c : Int) (n : Nat) : Nat := ((if c < 0 then -(c + 1) else c) % (n : Int)).toNat
theorem pickN_lt (c : Int) {n : Nat} (h : 0 < n) : pickN c n < n := by
  unfold pickN
  have := Int.emod_lt_of_pos (if c < 0 then -(c + 1) else c) (show (0 : Int) < (n : Int) by omega)
  have := Int.emod_nonneg (if c < 0 then -(c + 1) else c) (show (n : Int) ≠ 0 by omega)
  omega

set_option maxHeartbeats 1000000 in
theorem pick_any (c : Int) (n : Nat) (w : World) (h0 : 0 < n) (hn : n ≤ 100) (hc : -9223372036854775808 ≤ c ∧ c ≤ 9223372036854775807) :
    Calls Tryz.prog 54 #[.int .i64 c, .int .i64 n] w fun e w' => e = .returned (.int .i64 (pickN c n)) ∧ w' = w := by
  obtain ⟨hc1, hc2⟩ := hc
  have hnz : ((n : Int) == 0) = false := beq_eq_false_iff_ne.2 (by omega)
  have hnz2 : ¬ (n : Int) = 0 := by omega
  by_cases hneg : c < 0
  · have w1 : IntKind.i64.wrap (c + 1) = c + 1 := by rw [IntWalk.i64_left, IntWalk.wrap64_in _ (by omega)]
    have w2 : IntKind.i64.wrap (-(c + 1)) = -(c + 1) := by rw [IntWalk.i64_left, IntWalk.wrap64_in _ (by omega)]
    go_enter Tryz.func54, Tryz.ntmps54
    go_wp2
    go_ret
    refine ⟨ret_int ?_, rfl⟩
    unfold pickN
    rw [if_pos hneg, ← Int.neg_tmod, Int.tmod_eq_emod_of_nonneg (by omega), Int.toNat_of_nonneg (Int.emod_nonneg _ hnz2)]
  · go_enter Tryz.func54, Tryz.ntmps54
    go_wp2
    go_ret
    refine ⟨ret_int ?_, rfl⟩
    unfold pickN
    rw [if_neg (by omega), Int.toNat_of_nonneg (Int.emod_nonneg _ hnz2)]

end Go.Proofs.YtolififimldmlaaGreat
