import Derived.Test.YtolififimldmlaaGreatPart35
set_option linter.unusedVariables false
set_option linter.unusedSimpArgs false
namespace Go.Proofs.YtolififimldmlaaGreat
open Go.RowKit
attribute [local go_sem ↓] Go.wp_at_zero Go.wp_at_succ

/-- 'append' of bytes to a row of bytes of one's own, nil or not: what is touched, where it lies then. -/
theorem run_appR {w : World} {b : Option Nat} {c : Nat} {l l2 : List UInt8} (ty tx : TypeId) (x : Value) (ha : BytesAt w b l) (ho : OwnRow w 5 1 b l.length c) (hs : Src Tryz.prog 1 tx x l2.length (u8cells l2) w) (hn : l.length + l2.length ≤ 100000000) :
    ∃ b' c' w', (Builtin.append_ #[31, tx] ty #[sl b l.length c, x]).run Tryz.prog w = .ok (sl b' (l.length + l2.length) c') w' ∧ BytesAt w' b' (l ++ l2) ∧ OwnRow w' 5 1 b' (l ++ l2).length c' ∧ Touch (fun k => b = some k) w w' ∧ ∀ k, b' = some k → b = some k ∨ w.heap.size ≤ k := by
  obtain ⟨ib, hib, hib0, hib1, hib2⟩ := info_parts Tryz.info5
  cases b with
  | none =>
    rcases ho with ⟨_, h1, h2⟩ | ⟨g, _, h1, _⟩
    · have hl : l = [] := by cases l with
        | nil => rfl
        | cons _ _ => simp at h1
      subst hl
      subst h2
      obtain ⟨b', c', w', hr, P⟩ := run_appN (P := Tryz.prog) w 31 tx ty 5 ib (.int .u8 0) 1 1 Tryz.underlying31 hib hib0 hib1 hib2 rfl x l2.length (u8cells l2) hs (by omega) (by omega)
      have PB := P.bytes rfl
      exact ⟨b', c', w', by rw [List.length_nil, Nat.zero_add]; exact hr, by rw [List.nil_append]; exact PB.1, by rw [List.nil_append]; exact PB.2, Touch.of_belowAll P.below _, fun k e => .inr (P.fresh k e)⟩
    · cases h1
  | some g =>
    obtain ⟨g', c', w', hr, P⟩ := run_appS (P := Tryz.prog) w 31 tx ty 5 ib (.int .u8 0) 1 1 Tryz.underlying31 hib hib0 hib1 hib2 rfl g l.length c ho x l2.length (u8cells l2) hs (by omega) (by omega)
    have G := (Grew.refl ha ho).app P rfl rfl rfl
    refine ⟨some g', c', w', hr, G.at_, G.own, G.touch, fun k e => ?_⟩
    have e := Option.some.inj e
    subst e
    exact G.lies

theorem setAll_mid {B : Nat} {e : TypeId} {f : Nat × Nat} (post : List Value) (vs : List Value) : ∀ (w : World) (pre rest : List Value), w.heap[B]? = some (.cells (pre ++ rest ++ post).toArray e f) → rest.length = vs.length → (setAll w B pre.length vs).heap[B]? = some (.cells (pre ++ vs ++ post).toArray e f) := by
  induction vs with
  | nil =>
    intro w pre rest h hl
    have : rest = [] := List.eq_nil_of_length_eq_zero (by simpa using hl)
    subst this
    exact h
  | cons v vs ih =>
    intro w pre rest h hl
    cases rest with
    | nil => simp at hl
    | cons r rest =>
      have h1 := heap_setCell h pre.length v
      have h2 : (pre ++ r :: rest ++ post).toArray.setIfInBounds pre.length v = ((pre ++ [v]) ++ rest ++ post).toArray := by simp
      rw [h2] at h1
      have := ih (w.setCell ⟨B, pre.length, none⟩ v) (pre ++ [v]) rest h1 (by simpa using hl)
      rw [List.length_append, List.length_singleton] at this
      unfold setAll
      rw [this, List.append_assoc]; simp

/-- A keeper has changed: nothing but its own was touched. -/
structure Chg (w w' : World) (B : Nat) (v v' : PV) : Prop where
  at_ : v'.At w' B
  tch : Touch (fun k => v.own B k) w w'
  new : ∀ k, v'.own B k → v.own B k ∨ w.heap.size ≤ k

theorem Chg.same {w w' : World} {B : Nat} {v : PV} (h : v.At w B) (hb : Below w.heap.size w w') : Chg w w' B v v := ⟨h.below hb, Touch.of_belowAll hb _, fun _ e => .inl e⟩
theorem PV.At.ownlt {v : PV} {w : World} {B : Nat} (h : v.At w B) {k : Nat} (e : v.own B k) : k < w.heap.size := by
  rcases e with e | e | e | e
  · subst e; exact h.lt
  · exact h.dow.lt e
  · exact h.low.lt e
  · exact h.fow.lt e
theorem Chg.trans {w x y : World} {B : Nat} {v u t : PV} (h : Chg w x B v u) (k : Chg x y B u t) : Chg w y B v t :=
  ⟨k.at_, h.tch.trans k.tch (fun i hi e => by
    rcases h.new i e with e | e
    · exact e
    · omega), fun i e => by
    rcases k.new i e with e | e
    · exact h.new i e
    · exact .inr (Nat.le_trans h.tch.size e)⟩
theorem Chg.below {w x y : World} {B : Nat} {v u : PV} (h : Chg w x B v u) (hb : Below x.heap.size x y) : Chg w y B v u := h.trans (Chg.same h.at_ hb)
theorem Chg.of {w x y : World} {B : Nat} {v u : PV} (hb : Below w.heap.size w x) (hv : v.At w B) (h : Chg x y B v u) : Chg w y B v u := (Chg.same hv hb).trans h

set_option maxRecDepth 100000 in
set_option maxHeartbeats 4000000 in
/-- A record that fails. -/
theorem writeFailV (v : PV) (B : Nat) (w : World) (h : v.At w B) (hl : v.lost = []) (harm : v.arm = 1) (a : Option Addr) (n c : Nat) (inner : List UInt8) (hb : BytesIn w a inner) (hil : inner.length = n) (hin : inner.length ≤ 1000) :
    Calls Tryz.prog 163 #[.pointer (some ⟨B, 3, none⟩), .slice a n c] w fun e w' => ∃ gf cf, e = .returned (.bool false) ∧ Chg w w' B v { v with m := Mm.zero, arm := 0, lost := recBytes inner, gl := none, cl := 0, gf := some gf, cf := cf } := by
  have FV := hid (failedV v B w h)
  rw [hl] at FV
  have HW : Hid (∀ z, Below w.heap.size w z → Calls Tryz.prog 184 #[.slice a n c] z fun e w' => ∃ g cq, e = .returned (.slice (some ⟨g, 0, none⟩) (recBytes inner).length cq) ∧ OwnBytes z w' (some g) cq (recBytes inner) ∧ Below z.heap.size z w') := fun z hz => whole_go a n c inner z (hb.below hz) hil hin
  have C7 : Hid (w.cell? ⟨B, 7, none⟩ = some (.int .i64 1)) := by have := cell_of_heap h.blk 7; rw [harm] at this; exact this
  have C3 : Hid (w.cell? ⟨B, 3, none⟩ = some (.slice (v.gd.map fun k => ⟨k, 0, none⟩) v.d.length v.cd)) := cell_of_heap h.blk 3
  have HV := hid h
  have hB := h.lt
  clear h hb hil hin harm hl
  go_enter Tryz.func163, Tryz.ntmps163
  go_wp2_with fail
  refine FV.out.mono ?_
  rintro e X0 ⟨rfl, hb0⟩
  have HB0 := hid hb0
  have c7 := (hb0.cell (World.block_lt_of_cell? _ _ C7.out)).trans C7.out
  have C30 := hid ((hb0.cell (World.block_lt_of_cell? _ _ C3.out)).trans C3.out)
  clear hb0 FV
  simp only [List.length_nil, Nat.lt_irrefl, decide_false]
  go_wp2
  have HSB : Hid (∀ z, Below w.heap.size w z → (Below w.heap.size w z ∧ z.cell? ⟨B, 3, none⟩ = some (.slice (v.gd.map fun k => ⟨k, 0, none⟩) v.d.length v.cd))) := fun z hz => ⟨hz, (hz.cell (World.block_lt_of_cell? _ _ C3.out)).trans C3.out⟩
  refine wp_region_held_drew (S := fun z : World => z.cell? ⟨B, 3, none⟩ = some (.slice (v.gd.map fun k => ⟨k, 0, none⟩) v.d.length v.cd)) (by kernel_rfl) (HSB.out _ HB0.out.drew).2 (fun hS => ?_)
  refine wpAnyH_take (i := 0) (v := ?rv1) rfl (by kernel_rfl) (by kernel_rfl) (by kernel_rfl) (fun _ _ _ h => h) (Or.inl ⟨by rfl, ?ry1⟩) hS ?rr1
  case ry1 => (intro w hw; clear hw; go_simp; try with_reducible rfl)
  try simp only [List.getElem_toArray, List.getElem_cons_zero, List.getElem_cons_succ, Act.put, List.setIfInBounds_toArray, List.set_cons_zero, List.set_cons_succ]
  refine wpAnyH_take (i := 1) (v := ?rv2) rfl (by kernel_rfl) (by kernel_rfl) (by kernel_rfl) (fun _ _ _ h => h) (Or.inl ⟨by rfl, ?ry2⟩) hS ?rr2
  case ry2 => (intro w hw; clear hw; go_simp; try with_reducible rfl)
  try simp only [List.getElem_toArray, List.getElem_cons_zero, List.getElem_cons_succ, Act.put, List.setIfInBounds_toArray, List.set_cons_zero, List.set_cons_succ]
  refine wpAnyH_take (i := 2) (v := ?rv3) rfl (by kernel_rfl) (by kernel_rfl) (by kernel_rfl) (fun _ _ _ h => h) (Or.inl ⟨by rfl, ?ry3⟩) hS ?rr3
  case ry3 => (intro w hw; clear hw; go_simp; try with_reducible rfl)
  try simp only [List.getElem_toArray, List.getElem_cons_zero, List.getElem_cons_succ, Act.put, List.setIfInBounds_toArray, List.set_cons_zero, List.set_cons_succ]
  refine wpAnyH_take (i := 3) (v := ?rv4) rfl (by kernel_rfl) (by kernel_rfl) (by kernel_rfl) (fun _ _ _ h => h) (Or.inl ⟨by rfl, ?ry4⟩) hS ?rr4
  case ry4 => (intro w hw; clear hw; go_simp; try with_reducible rfl)
  try simp only [List.getElem_toArray, List.getElem_cons_zero, List.getElem_cons_succ, Act.put, List.setIfInBounds_toArray, List.set_cons_zero, List.set_cons_succ]
  refine wpAnyH_take (i := 5) (v := ?rv5) rfl (by kernel_rfl) (by kernel_rfl) (by kernel_rfl) (fun _ _ _ h => h) (Or.inl ⟨by rfl, ?ry5⟩) hS ?rr5
  case ry5 => (intro w hw; clear hw; go_simp; try with_reducible rfl)
  try simp only [List.getElem_toArray, List.getElem_cons_zero, List.getElem_cons_succ, Act.put, List.setIfInBounds_toArray, List.set_cons_zero, List.set_cons_succ]
  refine wpAnyH_take (i := 4) (v := ?rv8) rfl (by kernel_rfl) (by kernel_rfl) (by kernel_rfl) (fun _ _ _ h => h) (Or.inl ⟨by rfl, ?ry8⟩) hS ?rr8
  case ry8 => (intro w hw; have s1 := hw; clear hw; go_simp; try with_reducible rfl)
  try simp only [List.getElem_toArray, List.getElem_cons_zero, List.getElem_cons_succ, Act.put, List.setIfInBounds_toArray, List.set_cons_zero, List.set_cons_succ]
  refine wpAnyH_ready (rs := [6]) (by kernel_rfl) (by simp) ?_
  refine AllReadyH.cons rfl (fun K hK => ?_) AllReadyH.nil
  go_simp
  refine (HW.out _ HB0.out.drew).mono ?_
  rintro e X1 ⟨gf, cf, rfl, ho, hbf⟩
  have HB1 := hid (HB0.out.drew.trans (hbf.mono HB0.out.size))
  have HO := hid (ho.base (u := w) HB0.out.size)
  clear hbf ho
  refine hK.out _ _ (HSB.out _ HB1.out).2 (fun hS => ?_)
  clear hK K
  refine wpAnyH_take (i := 7) (v := ?rv6) rfl (by kernel_rfl) (by kernel_rfl) (by kernel_rfl) (fun _ _ _ h => h) (Or.inl ⟨by rfl, ?ry6⟩) hS ?rr6
  case ry6 => (intro w hw; clear hw; go_simp; try with_reducible rfl)
  try simp only [List.getElem_toArray, List.getElem_cons_zero, List.getElem_cons_succ, Act.put, List.setIfInBounds_toArray, List.set_cons_zero, List.set_cons_succ]
  refine wpAnyH_take (i := 8) (v := ?rv7) rfl (by kernel_rfl) (by kernel_rfl) (by kernel_rfl) (fun _ _ _ h => h) (Or.inl ⟨by rfl, ?ry7⟩) hS ?rr7
  case ry7 => (intro w hw; clear hw; go_simp; try with_reducible rfl)
  try simp only [List.getElem_toArray, List.getElem_cons_zero, List.getElem_cons_succ, Act.put, List.setIfInBounds_toArray, List.set_cons_zero, List.set_cons_succ]
  have HV1 := hid (HV.out.below HB1.out)
  have q3 := cell_of_heap HV1.out.blk 3
  have q4 := cell_of_heap HV1.out.blk 4
  have q5 := cell_of_heap HV1.out.blk 5
  have q6 := cell_of_heap HV1.out.blk 6
  have q7 := cell_of_heap HV1.out.blk 7
  have q8 := cell_of_heap HV1.out.blk 8
  unfold progCells at q3 q4 q5 q6 q7 q8
  simp only [List.getElem?_toArray, List.getElem?_cons_zero, List.getElem?_cons_succ] at q3 q4 q5 q6 q7 q8
  have fq : ∀ j, X1.frozen? ⟨B, j, none⟩ = false := fun j => frozen_of_heap HV1.out.blk j
  refine wpAnyH_ready (rs := [9]) (by kernel_rfl) (by simp) ?_
  refine AllReadyH.cons rfl (fun KK hKK => ?_) AllReadyH.nil
  go_simp
  have hblk := HV1.out.blk
  unfold progCells at hblk
  have h6 := setAll_mid [.int .i64 v.ag, .int .i64 (v.hs 0), .int .i64 (v.hs 1), .int .i64 (v.hs 2), .int .i64 (v.hs 3), .int .i64 (v.hs 4), .int .i64 0, .bool false, .bool false, .bool false, .bool false, .bool false, .slice none 0 0, .bool false] [sl v.gd v.d.length v.cd, .int .i64 0, .int .i64 0, .slice none 0 0, .int .i64 0, .slice (some ⟨gf, 0, none⟩) (recBytes inner).length cf] X1 [.int .i64 v.kp, .int .i64 v.me, .int .i64 v.pa] [sl v.gd v.d.length v.cd, .int .i64 v.m.view, .int .i64 v.m.last, sl v.gl v.m.ls.length v.cl, .int .i64 v.arm, sl v.gf v.lost.length v.cf] hblk rfl
  have t6 := setAll_touch B [sl v.gd v.d.length v.cd, .int .i64 0, .int .i64 0, .slice none 0 0, .int .i64 0, .slice (some ⟨gf, 0, none⟩) (recBytes inner).length cf] X1 3
  change KK _ (setAll X1 B 3 [sl v.gd v.d.length v.cd, .int .i64 0, .int .i64 0, .slice none 0 0, .int .i64 0, .slice (some ⟨gf, 0, none⟩) (recBytes inner).length cf])
  have h6' : (setAll X1 B 3 [sl v.gd v.d.length v.cd, .int .i64 0, .int .i64 0, .slice none 0 0, .int .i64 0, .slice (some ⟨gf, 0, none⟩) (recBytes inner).length cf]).heap[B]? = _ := h6
  clear h6
  generalize setAll X1 B 3 [sl v.gd v.d.length v.cd, .int .i64 0, .int .i64 0, .slice none 0 0, .int .i64 0, .slice (some ⟨gf, 0, none⟩) (recBytes inner).length cf] = Z at *
  have hgB : ∀ k, (some gf : Option Nat) = some k → w.heap.size ≤ k := HO.out.new
  have CH : Hid (Chg w Z B v { v with m := Mm.zero, arm := 0, lost := recBytes inner, gl := none, cl := 0, gf := some gf, cf := cf }) := by
    have ndB : ∀ k, v.gd = some k → ¬ (k = B) := fun k e e2 => HV.out.ne1.1 (by rw [e, e2])
    have nfB : ∀ k, (some gf : Option Nat) = some k → ¬ (k = B) := fun k e e2 => by have := hgB k e; omega
    refine ⟨⟨h6', HV1.out.db.touch t6 ndB, HV1.out.dow.touch t6 ndB, fun j hj => absurd hj (by simp [Mm.zero]), .inl ⟨rfl, rfl, rfl⟩, HO.out.at_.touch t6 nfB, HO.out.own.touch t6 nfB, ⟨HV.out.ne1.1, (fun e => by cases e), fun e => nfB B e rfl⟩, (fun k _ e => by cases e), fun k e e2 => ?_, (fun k e => by cases e)⟩, ?_, fun k e => ?_⟩
    · have := hgB k e2; have := HV.out.dow.lt e; omega
    · exact (Touch.of_belowAll HB1.out _).trans t6 (fun i _ e => .inl e)
    · rcases e with e | e | e | e
      · exact .inl (.inl e)
      · exact .inl (.inr (.inl e))
      · cases e
      · exact .inr (hgB k e)
  have z3 : Z.cell? ⟨B, 3, none⟩ = some (.slice (v.gd.map fun k => ⟨k, 0, none⟩) v.d.length v.cd) := cell_of_heap h6' 3
  clear h6' t6 hblk
  refine hKK.out _ _ z3 (fun hS => ?_)
  clear hKK KK hS
  refine wpAnyH_done (by kernel_rfl) ?_ _
  go_wp2
  go_ret
  exact ⟨gf, cf, rfl, CH.out⟩

end Go.Proofs.YtolififimldmlaaGreat

set_option linter.unusedVariables false
set_option linter.unusedSimpArgs false
namespace Go.Proofs.YtolififimldmlaaGreat
open Go.RowKit
attribute [local go_sem ↓] Go.wp_at_zero Go.wp_at_succ

theorem step_appRun {P : Program} {w : World} {ops : Array Oper} {o : Oper} {a : Act} {K : Act → World → Prop} {Q : Exit → Act → World → Prop} {E : Prop} (hgd : o.guard = none) (s y : Operand) (t tx : TypeId)
    (ho : o.op = .call { callee := .builtin .append, args := #[s, y], argTypes := #[t, tx] }) (x1 x2 v : Value) (w' : World) (hq : a.eval s = x1) (hx : a.eval y = x2) (hr : (Builtin.append_ #[t, tx] o.type #[x1, x2]).run P w = .ok v w')
    (h : K (a.put o.dst v) w') : if Region.wanted o (yielded ops a.tmps) = true then Oper.wp P o a w K Q else E := by
  have hw : Region.wanted o (yielded ops a.tmps) = true := by simp [Region.wanted, hgd]
  rw [if_pos hw]
  unfold Oper.wp execOp
  simp only [ho, resolve, invoke, builtin, Sem.run_bind, Sem.run_pure, Result.andThen_ok, List.map_toArray, List.map_cons, List.map_nil, hq, hx, hr]
  exact h

/-- The disk's next record will fail at another count. -/
theorem PV.At.arm {v : PV} {w : World} {B : Nat} (h : v.At w B) (n : Int) : Chg w (w.setCell ⟨B, 7, none⟩ (.int .i64 n)) B v { v with arm := n } := by
  have t : Touch (fun k => k = B) w (w.setCell ⟨B, 7, none⟩ (.int .i64 n)) := (Touch.refl (fun k => k = B) w).setCell (p := ⟨B, 7, none⟩) (fun _ => rfl) _
  have hb := heap_setCell h.blk 7 (.int .i64 n)
  have nd : ∀ k, v.gd = some k → ¬ (k = B) := fun k e e2 => h.ne1.1 (by rw [e, e2])
  have nl : ∀ k, v.gl = some k → ¬ (k = B) := fun k e e2 => h.ne1.2.1 (by rw [e, e2])
  have nf : ∀ k, v.gf = some k → ¬ (k = B) := fun k e e2 => h.ne1.2.2 (by rw [e, e2])
  refine ⟨⟨?_, h.db.touch t nd, h.dow.touch t nd, h.lb.touch t (fun q e => ?_), h.low.touch t nl, h.fb.touch t nf, h.fow.touch t nf, h.ne1, h.ne2⟩, t.mono (fun i _ e => .inl e), fun k e => .inl e⟩
  · unfold progCells at hb ⊢
    simp only [List.setIfInBounds_toArray, List.set_cons_zero, List.set_cons_succ] at hb
    exact hb
  · cases hg : v.gl with
    | none => rw [hg] at e; cases e
    | some g0 => rw [hg] at e; cases e; exact nl g0 hg

/-- Its bytes lie elsewhere, and are more. -/
theorem diskChg {v : PV} {w X : World} {B : Nat} {l2 : List UInt8} {gd' : Option Nat} {cd' n : Nat} (hv : v.At w B) (ha : BytesAt X gd' (v.d ++ l2)) (ho : OwnRow X 5 1 gd' (v.d ++ l2).length cd') (ht : Touch (fun k => v.gd = some k) w X) (hn : ∀ k, gd' = some k → v.gd = some k ∨ w.heap.size ≤ k) (hnn : n = (v.d ++ l2).length) :
    Chg w (X.setCell ⟨B, 3, none⟩ (.slice (gd'.map fun k => ⟨k, 0, none⟩) n cd')) B v { v with d := v.d ++ l2, gd := gd', cd := cd' } := by
  subst hnn
  have t : Touch (fun k => k = B) X (X.setCell ⟨B, 3, none⟩ (.slice (gd'.map fun k => ⟨k, 0, none⟩) (v.d ++ l2).length cd')) := (Touch.refl (fun k => k = B) X).setCell (p := ⟨B, 3, none⟩) (fun _ => rfl) _
  have hB := hv.lt
  have hX := ht.heapAt hv.blk (fun e => hv.ne1.1 e)
  have hb := heap_setCell hX 3 (.slice (gd'.map fun k => ⟨k, 0, none⟩) (v.d ++ l2).length cd')
  have nd : ∀ k, gd' = some k → ¬ (k = B) := fun k e e2 => by
    rcases hn k e with e3 | e3
    · exact hv.ne1.1 (by rw [e3, e2])
    · omega
  have nl : ∀ k, v.gl = some k → ¬ (k = B) := fun k e e2 => hv.ne1.2.1 (by rw [e, e2])
  have nf : ∀ k, v.gf = some k → ¬ (k = B) := fun k e e2 => hv.ne1.2.2 (by rw [e, e2])
  have ll : ∀ k, v.gl = some k → ¬ (v.gd = some k) := fun k e e2 => hv.ne2.1 k e2 e
  have lf : ∀ k, v.gf = some k → ¬ (v.gd = some k) := fun k e e2 => hv.ne2.2.1 k e2 e
  have hlb : LinesAt X (v.gl.map fun k => (⟨k, 0, none⟩ : Addr)) v.m.ls := hv.lb.touch ht (fun q e => by
    cases hg : v.gl with
    | none => rw [hg] at e; cases e
    | some g0 => rw [hg] at e; cases e; exact ll g0 hg)
  refine ⟨⟨?_, ha.touch t nd, ho.touch t nd, hlb.touch t (fun q e => ?_), (hv.low.touch ht ll).touch t nl, (hv.fb.touch ht lf).touch t nf, (hv.fow.touch ht lf).touch t nf, ⟨fun e => nd B e rfl, hv.ne1.2⟩, fun k e e2 => ?_, fun k e e2 => ?_, hv.ne2.2.2⟩, ht.mono (fun i _ e => .inr (.inl e)) |>.trans t (fun i _ e => .inl e), fun k e => ?_⟩
  · unfold progCells at hb ⊢
    simp only [List.setIfInBounds_toArray, List.set_cons_zero, List.set_cons_succ] at hb
    exact hb
  · cases hg : v.gl with
    | none => rw [hg] at e; cases e
    | some g0 => rw [hg] at e; cases e; exact nl g0 hg
  · rcases hn k e with e3 | e3
    · exact hv.ne2.1 k e3 e2
    · have := hv.low.lt e2; omega
  · rcases hn k e with e3 | e3
    · exact hv.ne2.2.1 k e3 e2
    · have := hv.fow.lt e2; omega
  · rcases e with e | e | e | e
    · exact .inl (.inl e)
    · rcases hn k e with e3 | e3
      · exact .inl (.inr (.inl e3))
      · exact .inr e3
    · exact .inl (.inr (.inr (.inl e)))
    · exact .inl (.inr (.inr (.inr e)))

/-- What it says is another thing. -/
theorem saidChg {v u : PV} {w x y : World} {B : Nat} {m' : Mm} {gl' : Option Nat} {cl' : Nat} {wB : World} (hc : Chg w x B v u) (hb : y.heap[B]? = some (.cells (progCells u.kp u.me u.pa u.gd u.d.length u.cd u.m u.gl u.cl u.arm u.gf u.lost.length u.cf u.ag u.hs) 103 (0, 0))) (ht : Touch (fun k => u.gl = some k) x y) (ho : OwnLines wB y gl' cl' m'.ls) (hf : ∀ k, gl' = some k → u.gl = some k ∨ x.heap.size ≤ k) :
    Chg w (((y.setCell ⟨B, 4, none⟩ (.int .i64 m'.view)).setCell ⟨B, 5, none⟩ (.int .i64 m'.last)).setCell ⟨B, 6, none⟩ (.slice (gl'.map fun k => ⟨k, 0, none⟩) m'.ls.length cl')) B v { u with m := m', gl := gl', cl := cl' } := by
  have hu := hc.at_
  refine hc.trans ?_
  have t : Touch (fun k => k = B) y (((y.setCell ⟨B, 4, none⟩ (.int .i64 m'.view)).setCell ⟨B, 5, none⟩ (.int .i64 m'.last)).setCell ⟨B, 6, none⟩ (.slice (gl'.map fun k => ⟨k, 0, none⟩) m'.ls.length cl')) := (((Touch.refl (fun k => k = B) y).setCell (p := ⟨B, 4, none⟩) (fun _ => rfl) _).setCell (p := ⟨B, 5, none⟩) (fun _ => rfl) _).setCell (p := ⟨B, 6, none⟩) (fun _ => rfl) _
  have hbb := heap_setCell (heap_setCell (heap_setCell hb 4 (.int .i64 m'.view)) 5 (.int .i64 m'.last)) 6 (.slice (gl'.map fun k => ⟨k, 0, none⟩) m'.ls.length cl')
  have hB := hu.lt
  have nd : ∀ k, u.gd = some k → ¬ (k = B) := fun k e e2 => hu.ne1.1 (by rw [e, e2])
  have nl : ∀ k, gl' = some k → ¬ (k = B) := fun k e e2 => by
    rcases hf k e with e3 | e3
    · exact hu.ne1.2.1 (by rw [e3, e2])
    · omega
  have nf : ∀ k, u.gf = some k → ¬ (k = B) := fun k e e2 => hu.ne1.2.2 (by rw [e, e2])
  have dl : ∀ k, u.gd = some k → ¬ (u.gl = some k) := fun k e e2 => hu.ne2.1 k e e2
  have fl : ∀ k, u.gf = some k → ¬ (u.gl = some k) := fun k e e2 => hu.ne2.2.2 k e2 e
  refine ⟨⟨?_, (hu.db.touch ht dl).touch t nd, (hu.dow.touch ht dl).touch t nd, ho.at_.touch t (fun q e => ?_), ho.own.touch t nl, (hu.fb.touch ht fl).touch t nf, (hu.fow.touch ht fl).touch t nf, ⟨hu.ne1.1, fun e => nl B e rfl, hu.ne1.2.2⟩, fun k e e2 => ?_, hu.ne2.2.1, fun k e e2 => ?_⟩, ht.mono (fun i _ e => .inr (.inr (.inl e))) |>.trans t (fun i _ e => .inl e), fun k e => ?_⟩
  · unfold progCells at hbb ⊢
    simp only [List.setIfInBounds_toArray, List.set_cons_zero, List.set_cons_succ] at hbb
    exact hbb
  · cases hg : gl' with
    | none => rw [hg] at e; cases e
    | some g0 => rw [hg] at e; cases e; exact nl g0 hg
  · rcases hf k e2 with e3 | e3
    · exact hu.ne2.1 k e e3
    · have := hu.dow.lt e; omega
  · rcases hf k e with e3 | e3
    · exact hu.ne2.2.2 k e3 e2
    · have := hu.fow.lt e2; omega
  · rcases e with e | e | e | e
    · exact .inl (.inl e)
    · exact .inl (.inr (.inl e))
    · rcases hf k e with e3 | e3
      · exact .inl (.inr (.inr (.inl e3)))
      · exact .inr e3
    · exact .inl (.inr (.inr (.inr e)))

end Go.Proofs.YtolififimldmlaaGreat
