import Derived.Test.YtolififimldmlaaGreatPart30
set_option linter.unusedVariables false
set_option linter.unusedSimpArgs false
namespace Go.Proofs.YtolififimldmlaaGreat
open Go.RowKit
attribute [local go_sem ↓] Go.wp_at_zero Go.wp_at_succ

/-- A keeper of the program: what its block and its rows hold, and where these lie. -/
structure PV where
  kp : Int
  me : Int
  pa : Int
  d : List UInt8
  m : Mm
  arm : Int
  lost : List UInt8
  ag : Nat
  hs : Nat → Int
  gd : Option Nat
  cd : Nat
  gl : Option Nat
  cl : Nat
  gf : Option Nat
  cf : Nat
def PV.At (v : PV) (w : World) (K : Nat) : Prop := PK w K v.kp v.me v.pa v.d v.m v.arm v.lost v.ag v.hs v.gd v.cd v.gl v.cl v.gf v.cf
def PV.own (v : PV) (K k : Nat) : Prop := k = K ∨ v.gd = some k ∨ v.gl = some k ∨ v.gf = some k
theorem PV.At.below {v : PV} {w w' : World} {K : Nat} (h : v.At w K) (hb : Below w.heap.size w w') : v.At w' K := PK.below h hb
theorem PV.At.touch {v : PV} {w w' : World} {K : Nat} {T : Nat → Prop} (h : v.At w K) (ht : Touch T w w') (hn : ∀ k, v.own K k → ¬ T k) : v.At w' K :=
  PK.touch h ht (hn K (.inl rfl)) (fun k e => hn k (.inr (.inl e))) (fun k e => hn k (.inr (.inr (.inl e)))) (fun k e => hn k (.inr (.inr (.inr e))))
theorem PV.At.lt {v : PV} {w : World} {K : Nat} (h : v.At w K) : K < w.heap.size := heap_lt h.blk

theorem run_fieldC (w : World) (a b c : Value) : (Instr.field 94 (.agg #[a, b, c]) 0).run Tryz.prog w = .ok a w ∧ (Instr.field 94 (.agg #[a, b, c]) 1).run Tryz.prog w = .ok b w := by
  unfold Instr.field
  constructor <;> simp [go_sem, asAgg]
theorem run_fieldC0 (w : World) (a b c : Value) : (Instr.field 94 (.agg #[a, b, c]) 0).run Tryz.prog w = .ok a w := (run_fieldC w a b c).1

section
variable (v : PV) (K : Nat) (w : World) (h : v.At w K)
include h

theorem saidV : Calls Tryz.prog 47 #[.pointer (some ⟨K, 3, none⟩)] w fun e w' => e = .returned (.agg #[.int .i64 v.m.view, .int .i64 v.m.last, sl v.gl v.m.ls.length v.cl]) ∧ Below w.heap.size w w' :=
  said_go K _ _ _ _ _ _ _ _ _ _ _ _ _ _ _ w h
theorem linesV : Calls Tryz.prog 83 #[.pointer (some ⟨K, 0, none⟩)] w fun e w' => e = .returned (sl v.gl v.m.ls.length v.cl) ∧ Below w.heap.size w w' :=
  lines_go K _ _ _ _ _ _ _ _ _ _ _ _ _ _ _ w h

attribute [local go_sem] run_fieldC0 in
set_option maxRecDepth 100000 in
set_option maxHeartbeats 4000000 in
theorem viewV : Calls Tryz.prog 88 #[.pointer (some ⟨K, 0, none⟩)] w fun e w' => e = .returned (.int .i64 v.m.view) ∧ Below w.heap.size w w' := by
  have HS := hid (saidV v K w h)
  clear h
  go_enter Tryz.func88, Tryz.ntmps88
  go_wp2_with fail
  refine HS.out.mono ?_
  rintro e w2 ⟨rfl, hb⟩
  go_wp2
  go_ret
  exact ⟨rfl, hb⟩

set_option maxRecDepth 100000 in
set_option maxHeartbeats 4000000 in
theorem fewV (hk : v.kp = 3 ∨ v.kp = 5) : Calls Tryz.prog 199 #[.pointer (some ⟨K, 0, none⟩)] w fun e w' => e = .returned (.int .i64 (v.kp / 2)) ∧ Below w.heap.size w w' := by
  have c0 : w.cell? ⟨K, 0, none⟩ = some (.int .i64 v.kp) := cell_of_heap h.blk 0
  clear h
  generalize v.kp = kp at *
  rcases hk with rfl | rfl
  all_goals
    go_enter Tryz.func199, Tryz.ntmps199
    go_wp2
    go_ret
    exact ⟨rfl, Below.refl _ _⟩

set_option maxRecDepth 100000 in
set_option maxHeartbeats 4000000 in
theorem headOfV (x : Int) (hx : 0 ≤ x) (hk : v.kp = 3 ∨ v.kp = 5) : Calls Tryz.prog 120 #[.pointer (some ⟨K, 0, none⟩), .int .i64 x] w fun e w' => e = .returned (.int .i64 (x % v.kp)) ∧ Below w.heap.size w w' := by
  have c0 : w.cell? ⟨K, 0, none⟩ = some (.int .i64 v.kp) := cell_of_heap h.blk 0
  clear h
  generalize v.kp = kp at *
  rcases hk with rfl | rfl
  all_goals
    go_enter Tryz.func120, Tryz.ntmps120
    go_wp2
    go_ret
    exact ⟨rfl, Below.refl _ _⟩

set_option maxRecDepth 100000 in
set_option maxHeartbeats 4000000 in
theorem inViewV : Calls Tryz.prog 132 #[.pointer (some ⟨K, 0, none⟩)] w fun e w' => e = .returned (.bool (v.m.last == v.m.view)) ∧ Below w.heap.size w w' := by
  have HS := hid (saidV v K w h)
  clear h
  go_enter Tryz.func132, Tryz.ntmps132
  go_wp2_with fail
  refine HS.out.mono ?_
  rintro e w2 ⟨rfl, hb⟩
  unfold sl
  go_wp2
  go_ret
  exact ⟨rfl, hb.alloc hb.size _⟩

set_option maxRecDepth 100000 in
set_option maxHeartbeats 4000000 in
theorem failedV : Calls Tryz.prog 39 #[.pointer (some ⟨K, 3, none⟩)] w fun e w' => e = .returned (.bool (decide (0 < v.lost.length))) ∧ Below w.heap.size w w' := by
  have c8 : w.cell? ⟨K, 8, none⟩ = some (sl v.gf v.lost.length v.cf) := cell_of_heap h.blk 8
  clear h
  unfold sl at c8
  go_enter Tryz.func39, Tryz.ntmps39
  go_wp2
  go_ret
  exact ⟨ret_bool (by simp), Below.refl _ _⟩

set_option maxRecDepth 100000 in
set_option maxHeartbeats 4000000 in
theorem isOtherV (x : Int) : Calls Tryz.prog 80 #[.pointer (some ⟨K, 0, none⟩), .int .i64 x] w fun e w' => e = .returned (.bool (decide (0 ≤ x) && decide (x < v.kp) && (x != v.me))) ∧ Below w.heap.size w w' := by
  have c0 : w.cell? ⟨K, 0, none⟩ = some (.int .i64 v.kp) := cell_of_heap h.blk 0
  have c1 : w.cell? ⟨K, 1, none⟩ = some (.int .i64 v.me) := cell_of_heap h.blk 1
  clear h
  rcases Int.lt_or_le x 0 with h1 | h1
  · go_enter Tryz.func80, Tryz.ntmps80
    go_wp2
    go_ret
    exact ⟨ret_bool (by simp; omega), Below.refl _ _⟩
  · rcases Int.lt_or_le x v.kp with h2 | h2
    · go_enter Tryz.func80, Tryz.ntmps80
      go_wp2
      go_ret
      exact ⟨ret_bool (by simp [h1, h2]), Below.refl _ _⟩
    · go_enter Tryz.func80, Tryz.ntmps80
      go_wp2
      go_ret
      exact ⟨ret_bool (by simp; omega), Below.refl _ _⟩

end
end Go.Proofs.YtolififimldmlaaGreat

set_option linter.unusedVariables false
set_option linter.unusedSimpArgs false
namespace Go.Proofs.YtolififimldmlaaGreat
open Go.RowKit
attribute [local go_sem ↓] Go.wp_at_zero Go.wp_at_succ

section
variable (v : PV) (B : Nat) (w : World) (h : v.At w B)
include h

set_option maxRecDepth 100000 in
set_option maxHeartbeats 4000000 in
theorem isHeadByNumberV (hv : 0 ≤ v.m.view) (hk : v.kp = 3 ∨ v.kp = 5) : Calls Tryz.prog 133 #[.pointer (some ⟨B, 0, none⟩)] w fun e w' => e = .returned (.bool (v.m.view % v.kp == v.me)) ∧ Below w.heap.size w w' := by
  have H1 : Hid (w.cell? ⟨B, 1, none⟩ = some (.int .i64 v.me)) := cell_of_heap h.blk 1
  have VV : Hid (∀ z, Below w.heap.size w z → Calls Tryz.prog 88 #[.pointer (some ⟨B, 0, none⟩)] z fun e w' => e = .returned (.int .i64 v.m.view) ∧ Below z.heap.size z w') := fun z hz => viewV v B z (h.below hz)
  have HH : Hid (∀ z, Below w.heap.size w z → Calls Tryz.prog 120 #[.pointer (some ⟨B, 0, none⟩), .int .i64 v.m.view] z fun e w' => e = .returned (.int .i64 (v.m.view % v.kp)) ∧ Below z.heap.size z w') := fun z hz => headOfV v B z (h.below hz) _ hv hk
  clear h hv hk
  generalize v.m.view % v.kp = hd at *
  go_enter Tryz.func133, Tryz.ntmps133
  go_wp2
  have hS0 : (fun z : World => Below w.heap.size w z ∧ z.cell? ⟨B, 1, none⟩ = some (.int .i64 v.me)) w.drew := ⟨(Below.refl _ _).drew, H1.out⟩
  refine wp_region_held_drew (S := fun z : World => Below w.heap.size w z ∧ z.cell? ⟨B, 1, none⟩ = some (.int .i64 v.me)) (by kernel_rfl) hS0 (fun hS => ?_)
  clear hS0
  refine wpAnyH_take (i := 0) (v := ?rv1) rfl (by kernel_rfl) (by kernel_rfl) (by kernel_rfl) (fun _ _ _ h => h) (Or.inl ⟨by rfl, ?ry1⟩) hS ?rr1
  case ry1 => (intro w hw; clear hw; go_simp; try with_reducible rfl)
  try simp only [List.getElem_toArray, List.getElem_cons_zero, List.getElem_cons_succ, Act.put, List.setIfInBounds_toArray, List.set_cons_zero, List.set_cons_succ]
  refine wpAnyH_take (i := 1) (v := ?rv2) rfl (by kernel_rfl) (by kernel_rfl) (by kernel_rfl) (fun _ _ _ h => h) (Or.inl ⟨by rfl, ?ry2⟩) hS ?rr2
  case ry2 => (intro w hw; clear hw; go_simp; try with_reducible rfl)
  try simp only [List.getElem_toArray, List.getElem_cons_zero, List.getElem_cons_succ, Act.put, List.setIfInBounds_toArray, List.set_cons_zero, List.set_cons_succ]
  refine wpAnyH_take (i := 4) (v := ?rv3) rfl (by kernel_rfl) (by kernel_rfl) (by kernel_rfl) (fun _ _ _ h => h) (Or.inl ⟨by rfl, ?ry3⟩) hS ?rr3
  case ry3 => (intro w hw; clear hw; go_simp; try with_reducible rfl)
  try simp only [List.getElem_toArray, List.getElem_cons_zero, List.getElem_cons_succ, Act.put, List.setIfInBounds_toArray, List.set_cons_zero, List.set_cons_succ]
  refine wpAnyH_take (i := 5) (v := ?rv4) rfl (by kernel_rfl) (by kernel_rfl) (by kernel_rfl) (fun _ _ _ h => h) (Or.inl ⟨by rfl, ?ry4⟩) hS ?rr4
  case ry4 => (intro w hw; clear hw; go_simp; try with_reducible rfl)
  try simp only [List.getElem_toArray, List.getElem_cons_zero, List.getElem_cons_succ, Act.put, List.setIfInBounds_toArray, List.set_cons_zero, List.set_cons_succ]
  refine wpAnyH_take (i := 6) (v := ?rv5) rfl (by kernel_rfl) (by kernel_rfl) (by kernel_rfl) (fun _ _ _ h => h) (Or.inl ⟨by rfl, ?ry5⟩) hS ?rr5
  case ry5 => (intro w hw; clear hw; go_simp; try with_reducible rfl)
  try simp only [List.getElem_toArray, List.getElem_cons_zero, List.getElem_cons_succ, Act.put, List.setIfInBounds_toArray, List.set_cons_zero, List.set_cons_succ]
  refine wpAnyH_take (i := 7) (v := ?rv6) rfl (by kernel_rfl) (by kernel_rfl) (by kernel_rfl) (fun _ _ _ h => h) (Or.inl ⟨by rfl, ?ry6⟩) hS ?rr6
  case ry6 => (intro w hw; clear hw; go_simp; try with_reducible rfl)
  try simp only [List.getElem_toArray, List.getElem_cons_zero, List.getElem_cons_succ, Act.put, List.setIfInBounds_toArray, List.set_cons_zero, List.set_cons_succ]
  refine wpAnyH_take (i := 8) (v := ?rv15) rfl (by kernel_rfl) (by kernel_rfl) (by kernel_rfl) (fun _ _ _ h => h) (Or.inl ⟨by rfl, ?ry15⟩) hS ?rr15
  case ry15 => (intro w hw; obtain ⟨_, s1⟩ := hw; go_simp; try with_reducible rfl)
  try simp only [List.getElem_toArray, List.getElem_cons_zero, List.getElem_cons_succ, Act.put, List.setIfInBounds_toArray, List.set_cons_zero, List.set_cons_succ]
  refine wpAnyH_ready (rs := [2]) (by kernel_rfl) (by simp) ?_
  refine AllReadyH.cons rfl (fun K hK => ?_) AllReadyH.nil
  go_simp
  refine (VV.out _ hS.1).mono ?_
  rintro e X1 ⟨rfl, hbf⟩
  have hb1 := hS.1.trans (hbf.mono hS.1.size)
  clear hbf
  refine hK.out _ _ ⟨hb1, (Below.cell hb1 (World.block_lt_of_cell? _ _ H1.out)).trans H1.out⟩ (fun hS => ?_)
  clear hK K hb1
  refine wpAnyH_ready (rs := [3]) (by kernel_rfl) (by simp) ?_
  refine AllReadyH.cons rfl (fun K hK => ?_) AllReadyH.nil
  go_simp
  refine (HH.out _ hS.1).mono ?_
  rintro e X2 ⟨rfl, hbf⟩
  have hb1 := hS.1.trans (hbf.mono hS.1.size)
  clear hbf
  refine hK.out _ _ ⟨hb1, (Below.cell hb1 (World.block_lt_of_cell? _ _ H1.out)).trans H1.out⟩ (fun hS => ?_)
  clear hK K
  refine wpAnyH_take (i := 9) (v := ?rv7) rfl (by kernel_rfl) (by kernel_rfl) (by kernel_rfl) (fun _ _ _ h => h) (Or.inl ⟨by rfl, ?ry7⟩) hS ?rr7
  case ry7 => (intro w hw; clear hw; go_simp; try with_reducible rfl)
  try simp only [List.getElem_toArray, List.getElem_cons_zero, List.getElem_cons_succ, Act.put, List.setIfInBounds_toArray, List.set_cons_zero, List.set_cons_succ]
  refine wpAnyH_take (i := 10) (v := ?rv8) rfl (by kernel_rfl) (by kernel_rfl) (by kernel_rfl) (fun _ _ _ h => h) (Or.inl ⟨by rfl, ?ry8⟩) hS ?rr8
  case ry8 => (intro w hw; clear hw; go_simp; try with_reducible rfl)
  try simp only [List.getElem_toArray, List.getElem_cons_zero, List.getElem_cons_succ, Act.put, List.setIfInBounds_toArray, List.set_cons_zero, List.set_cons_succ]
  refine wpAnyH_done (by kernel_rfl) ?_ _
  clear hS
  have HB := hid hb1
  clear hb1
  go_wp2
  go_ret
  exact ⟨rfl, HB.out⟩

set_option maxRecDepth 100000 in
set_option maxHeartbeats 4000000 in
theorem isHeadV (hv : 0 ≤ v.m.view) (hk : v.kp = 3 ∨ v.kp = 5) : Calls Tryz.prog 85 #[.pointer (some ⟨B, 0, none⟩)] w fun e w' => e = .returned (.bool ((v.m.last == v.m.view) && (v.m.view % v.kp == v.me))) ∧ Below w.heap.size w w' := by
  have VV := hid (inViewV v B w h)
  have HH : Hid (∀ z, Below w.heap.size w z → Calls Tryz.prog 133 #[.pointer (some ⟨B, 0, none⟩)] z fun e w' => e = .returned (.bool (v.m.view % v.kp == v.me)) ∧ Below z.heap.size z w') := fun z hz => isHeadByNumberV v B z (h.below hz) hv hk
  clear h hv hk
  generalize (v.m.view % v.kp == v.me) = b2 at *
  generalize (v.m.last == v.m.view) = b1 at *
  cases b1
  · go_enter Tryz.func85, Tryz.ntmps85
    go_wp2_with fail
    refine VV.out.mono ?_
    rintro e w2 ⟨rfl, hb⟩
    go_wp2
    go_ret
    exact ⟨rfl, hb⟩
  · go_enter Tryz.func85, Tryz.ntmps85
    go_wp2_with fail
    refine VV.out.mono ?_
    rintro e w2 ⟨rfl, hb⟩
    have HB := hid hb
    clear hb
    go_wp2_with fail
    refine (HH.out _ HB.out).mono ?_
    rintro e w3 ⟨rfl, hb⟩
    go_wp2
    go_ret
    exact ⟨rfl, HB.out.trans (hb.mono HB.out.size)⟩

set_option maxRecDepth 100000 in
set_option maxHeartbeats 4000000 in
theorem stampV : Calls Tryz.prog 164 #[.pointer (some ⟨B, 0, none⟩)] w fun e w' => e = .returned (.agg #[.int .i64 v.me, .int .i64 v.m.view]) ∧ Below w.heap.size w w' := by
  have H1 : Hid (w.cell? ⟨B, 1, none⟩ = some (.int .i64 v.me)) := cell_of_heap h.blk 1
  have hK := h.lt
  have VV : Hid (∀ z, Below w.heap.size w z → Calls Tryz.prog 88 #[.pointer (some ⟨B, 0, none⟩)] z fun e w' => e = .returned (.int .i64 v.m.view) ∧ Below z.heap.size z w') := fun z hz => viewV v B z (h.below hz)
  clear h
  go_enter Tryz.func164, Tryz.ntmps164
  go_wp2
  generalize hY : w.alloc (.cells #[.int .i64 0, .int .i64 0] 151) = Y
  have HBY : Hid (Below w.heap.size w Y) := by show Below _ _ _; rw [← hY]; exact (Below.refl _ _).alloc (Nat.le_refl _) _
  have HR : Hid (Y.heap[w.heap.size]? = some (.cells #[.int .i64 0, .int .i64 0] 151 (0, 0))) := by show _ = _; rw [← hY]; exact heap_alloc_new w _
  clear hY
  have H1Y : Hid (Y.cell? ⟨B, 1, none⟩ = some (.int .i64 v.me)) := (HBY.out.cell hK).trans H1.out
  have hS0 : (fun z : World => Below w.heap.size w z ∧ z.cell? ⟨B, 1, none⟩ = some (.int .i64 v.me)) Y.drew := ⟨HBY.out.drew, H1Y.out⟩
  refine wp_region_held_drew (S := fun z : World => Below w.heap.size w z ∧ z.cell? ⟨B, 1, none⟩ = some (.int .i64 v.me)) (by kernel_rfl) hS0 (fun hS => ?_)
  clear hS0
  refine wpAnyH_take (i := 0) (v := ?rv9) rfl (by kernel_rfl) (by kernel_rfl) (by kernel_rfl) (fun _ _ _ h => h) (Or.inl ⟨by rfl, ?ry9⟩) hS ?rr9
  case ry9 => (intro w hw; clear hw; go_simp; try with_reducible rfl)
  try simp only [List.getElem_toArray, List.getElem_cons_zero, List.getElem_cons_succ, Act.put, List.setIfInBounds_toArray, List.set_cons_zero, List.set_cons_succ]
  refine wpAnyH_take (i := 1) (v := ?rv10) rfl (by kernel_rfl) (by kernel_rfl) (by kernel_rfl) (fun _ _ _ h => h) (Or.inl ⟨by rfl, ?ry10⟩) hS ?rr10
  case ry10 => (intro w hw; clear hw; go_simp; try with_reducible rfl)
  try simp only [List.getElem_toArray, List.getElem_cons_zero, List.getElem_cons_succ, Act.put, List.setIfInBounds_toArray, List.set_cons_zero, List.set_cons_succ]
  refine wpAnyH_take (i := 2) (v := ?rv11) rfl (by kernel_rfl) (by kernel_rfl) (by kernel_rfl) (fun _ _ _ h => h) (Or.inl ⟨by rfl, ?ry11⟩) hS ?rr11
  case ry11 => (intro w hw; clear hw; go_simp; try with_reducible rfl)
  try simp only [List.getElem_toArray, List.getElem_cons_zero, List.getElem_cons_succ, Act.put, List.setIfInBounds_toArray, List.set_cons_zero, List.set_cons_succ]
  refine wpAnyH_take (i := 3) (v := ?rv12) rfl (by kernel_rfl) (by kernel_rfl) (by kernel_rfl) (fun _ _ _ h => h) (Or.inl ⟨by rfl, ?ry12⟩) hS ?rr12
  case ry12 => (intro w hw; clear hw; go_simp; try with_reducible rfl)
  try simp only [List.getElem_toArray, List.getElem_cons_zero, List.getElem_cons_succ, Act.put, List.setIfInBounds_toArray, List.set_cons_zero, List.set_cons_succ]
  refine wpAnyH_take (i := 5) (v := ?rv13) rfl (by kernel_rfl) (by kernel_rfl) (by kernel_rfl) (fun _ _ _ h => h) (Or.inl ⟨by rfl, ?ry13⟩) hS ?rr13
  case ry13 => (intro w hw; clear hw; go_simp; try with_reducible rfl)
  try simp only [List.getElem_toArray, List.getElem_cons_zero, List.getElem_cons_succ, Act.put, List.setIfInBounds_toArray, List.set_cons_zero, List.set_cons_succ]
  refine wpAnyH_take (i := 4) (v := ?rv16) rfl (by kernel_rfl) (by kernel_rfl) (by kernel_rfl) (fun _ _ _ h => h) (Or.inl ⟨by rfl, ?ry16⟩) hS ?rr16
  case ry16 => (intro w hw; obtain ⟨_, s1⟩ := hw; go_simp; try with_reducible rfl)
  try simp only [List.getElem_toArray, List.getElem_cons_zero, List.getElem_cons_succ, Act.put, List.setIfInBounds_toArray, List.set_cons_zero, List.set_cons_succ]
  refine wpAnyH_ready (rs := [6]) (by kernel_rfl) (by simp) ?_
  refine AllReadyH.cons rfl (fun K hK => ?_) AllReadyH.nil
  go_simp
  refine (VV.out _ hS.1).mono ?_
  rintro e X1 ⟨rfl, hbf⟩
  have hb1 := hS.1.trans (hbf.mono hS.1.size)
  have HR1 : Hid (X1.heap[w.heap.size]? = some (.cells #[.int .i64 0, .int .i64 0] 151 (0, 0))) := (hbf.block _ (heap_lt HR.out)).trans HR.out
  have H1X : Hid (X1.cell? ⟨B, 1, none⟩ = some (.int .i64 v.me)) := (Below.cell hb1 (World.block_lt_of_cell? _ _ H1.out)).trans H1.out
  clear hbf
  refine hK.out _ _ ⟨hb1, H1X.out⟩ (fun hS => ?_)
  clear hK K
  have HB1 := hid hb1
  clear hb1
  have q0 : X1.cell? ⟨w.heap.size, 0, none⟩ = some (.int .i64 0) := cell_of_heap HR1.out 0
  have q1 : X1.cell? ⟨w.heap.size, 1, none⟩ = some (.int .i64 0) := cell_of_heap HR1.out 1
  have fq : ∀ j, X1.frozen? ⟨w.heap.size, j, none⟩ = false := fun j => frozen_of_heap HR1.out j
  refine wpAnyH_take (i := 7) (v := ?rv14) rfl (by kernel_rfl) (by kernel_rfl) (by kernel_rfl) (fun _ _ _ h => h) (Or.inl ⟨by rfl, ?ry14⟩) hS ?rr14
  case ry14 => (intro w hw; clear hw; go_simp; try with_reducible rfl)
  try simp only [List.getElem_toArray, List.getElem_cons_zero, List.getElem_cons_succ, Act.put, List.setIfInBounds_toArray, List.set_cons_zero, List.set_cons_succ]
  refine wpAnyH_ready (rs := [8]) (by kernel_rfl) (by simp) ?_
  refine AllReadyH.cons rfl (fun K hK => ?_) AllReadyH.nil
  go_simp
  have h2 := heap_setCell (heap_setCell HR1.out 0 (.int .i64 v.me)) 1 (.int .i64 v.m.view)
  simp only [List.setIfInBounds_toArray, List.set_cons_zero, List.set_cons_succ] at h2
  have z0 := cell_of_heap h2 0
  have z1 := cell_of_heap h2 1
  simp only [List.getElem?_toArray, List.getElem?_cons_zero, List.getElem?_cons_succ] at z0 z1
  have HB2 := hid ((HB1.out.setCell (p := ⟨w.heap.size, 0, none⟩) (Nat.le_refl _) (.int .i64 v.me)).setCell (p := ⟨w.heap.size, 1, none⟩) (Nat.le_refl _) (.int .i64 v.m.view))
  refine hK.out _ _ ⟨HB2.out, (HB2.out.cell (World.block_lt_of_cell? _ _ H1.out)).trans H1.out⟩ (fun hS => ?_)
  clear hK K
  refine wpAnyH_done (by kernel_rfl) ?_ _
  clear hS
  go_wp2
  refine bodyPost_ret (v := .agg #[.int .i64 v.me, .int .i64 v.m.view]) ?_ rfl ⟨rfl, HB2.out⟩
  simp [results, Tryz.results164, go_sem, z0, z1]

end
end Go.Proofs.YtolififimldmlaaGreat
