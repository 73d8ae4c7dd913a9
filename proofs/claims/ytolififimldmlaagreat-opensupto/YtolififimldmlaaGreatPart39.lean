import Derived.Test.YtolififimldmlaaGreatPart38
import Derived.Lib.AppendZeros
set_option linter.unusedVariables false
set_option linter.unusedSimpArgs false
namespace Go.Proofs.YtolififimldmlaaGreat
open Go.RowKit
attribute [local go_sem ↓] Go.wp_at_zero Go.wp_at_succ
attribute [local go_sem] run_field3

set_option maxRecDepth 100000 in
set_option maxHeartbeats 4000000 in
theorem agreedLines_go (K : Nat) (kp me pa : Int) (d : List UInt8) (m : Mm) (arm : Int) (lost : List UInt8) (ag : Nat) (hs : Nat → Int) (gd : Option Nat) (cd : Nat) (gl : Option Nat) (cl : Nat) (gf : Option Nat) (cf : Nat) (w : World) (h : PK w K kp me pa d m arm lost ag hs gd cd gl cl gf cf) (hag : ag ≤ m.ls.length) :
    Calls Tryz.prog 44 #[.pointer (some ⟨K, 0, none⟩)] w fun e w' => e = .returned (sl gl ag cl) ∧ Below w.heap.size w w' := by
  have HP := hid h
  have hcl : m.ls.length ≤ cl := by
    rcases h.low with ⟨_, h1, _⟩ | ⟨_, _, _, _, _, h1, _⟩
    · omega
    · exact h1
  have a0 : (0 : Int) ≤ (ag : Int) := by omega
  have a1 : (ag : Int) ≤ (cl : Int) := by omega
  have h9 : w.cell? ⟨K, 9, none⟩ = some (.int .i64 ag) := cell_of_heap h.blk 9
  have LV : Hid (∀ z, Below w.heap.size w z → Calls Tryz.prog 83 #[.pointer (some ⟨K, 0, none⟩)] z fun e w' => e = .returned (.slice (gl.map fun k => ⟨k, 0, none⟩) m.ls.length cl) ∧ Below z.heap.size z w') := fun z hz => lines_go K kp me pa d m arm lost ag hs gd cd gl cl gf cf z (h.below hz)
  have H9 := hid h9
  clear h h9
  unfold sl
  cases gl with
  | none =>
    simp only [Option.map_none] at LV ⊢
    go_enter Tryz.func44, Tryz.ntmps44
    go_wp2
    have hS0 : (fun z : World => Below w.heap.size w z ∧ z.cell? ⟨K, 9, none⟩ = some (.int .i64 ag)) w.drew := ⟨(Below.refl _ _).drew, H9.out⟩
    refine wp_region_held_drew (S := fun z : World => Below w.heap.size w z ∧ z.cell? ⟨K, 9, none⟩ = some (.int .i64 ag)) (by kernel_rfl) hS0 (fun hS => ?_)
    clear hS0
    refine wpAnyH_take (i := 0) (v := ?rv1) rfl (by kernel_rfl) (by kernel_rfl) (by kernel_rfl) (fun _ _ _ h => h) (Or.inl ⟨by rfl, ?ry1⟩) hS ?rr1
    case ry1 => (intro w hw; clear hw; go_simp; try with_reducible rfl)
    try simp only [List.getElem_toArray, List.getElem_cons_zero, List.getElem_cons_succ, Act.put, List.setIfInBounds_toArray, List.set_cons_zero, List.set_cons_succ]
    refine wpAnyH_take (i := 2) (v := ?rv2) rfl (by kernel_rfl) (by kernel_rfl) (by kernel_rfl) (fun _ _ _ h => h) (Or.inl ⟨by rfl, ?ry2⟩) hS ?rr2
    case ry2 => (intro w hw; clear hw; go_simp; try with_reducible rfl)
    try simp only [List.getElem_toArray, List.getElem_cons_zero, List.getElem_cons_succ, Act.put, List.setIfInBounds_toArray, List.set_cons_zero, List.set_cons_succ]
    refine wpAnyH_take (i := 3) (v := ?rv3) rfl (by kernel_rfl) (by kernel_rfl) (by kernel_rfl) (fun _ _ _ h => h) (Or.inl ⟨by rfl, ?ry3⟩) hS ?rr3
    case ry3 => (intro w hw; clear hw; go_simp; try with_reducible rfl)
    try simp only [List.getElem_toArray, List.getElem_cons_zero, List.getElem_cons_succ, Act.put, List.setIfInBounds_toArray, List.set_cons_zero, List.set_cons_succ]
    refine wpAnyH_take (i := 4) (v := ?rv4) rfl (by kernel_rfl) (by kernel_rfl) (by kernel_rfl) (fun _ _ _ h => h) (Or.inl ⟨by rfl, ?ry4⟩) hS ?rr4
    case ry4 => (intro w hw; clear hw; go_simp; try with_reducible rfl)
    try simp only [List.getElem_toArray, List.getElem_cons_zero, List.getElem_cons_succ, Act.put, List.setIfInBounds_toArray, List.set_cons_zero, List.set_cons_succ]
    refine wpAnyH_take (i := 5) (v := ?rv13) rfl (by kernel_rfl) (by kernel_rfl) (by kernel_rfl) (fun _ _ _ h => h) (Or.inl ⟨by rfl, ?ry13⟩) hS ?rr13
    case ry13 => (intro w hw; obtain ⟨_, s1⟩ := hw; go_simp; try with_reducible rfl)
    try simp only [List.getElem_toArray, List.getElem_cons_zero, List.getElem_cons_succ, Act.put, List.setIfInBounds_toArray, List.set_cons_zero, List.set_cons_succ]
    refine wpAnyH_ready (rs := [1]) (by kernel_rfl) (by simp) ?_
    refine AllReadyH.cons rfl (fun K hK => ?_) AllReadyH.nil
    go_simp
    refine (LV.out _ hS.1).mono ?_
    rintro e Y4 ⟨rfl, hbf⟩
    have HX := hid (hS.1.trans (hbf.mono hS.1.size))
    clear hbf
    refine hK.out _ _ ⟨HX.out, (Below.cell HX.out (World.block_lt_of_cell? _ _ H9.out)).trans H9.out⟩ (fun hS => ?_)
    clear hK K
    refine wpAnyH_take (i := 6) (v := ?rv5) rfl (by kernel_rfl) (by kernel_rfl) (by kernel_rfl) (fun _ _ _ h => h) (Or.inl ⟨by rfl, ?ry5⟩) hS ?rr5
    case ry5 => (intro w hw; clear hw; go_simp; try with_reducible rfl)
    try simp only [List.getElem_toArray, List.getElem_cons_zero, List.getElem_cons_succ, Act.put, List.setIfInBounds_toArray, List.set_cons_zero, List.set_cons_succ]
    refine wpAnyH_take (i := 7) (v := ?rv6) rfl (by kernel_rfl) (by kernel_rfl) (by kernel_rfl) (fun _ _ _ h => h) (Or.inl ⟨by rfl, ?ry6⟩) hS ?rr6
    case ry6 => (intro w hw; clear hw; go_simp; try with_reducible rfl)
    try simp only [List.getElem_toArray, List.getElem_cons_zero, List.getElem_cons_succ, Act.put, List.setIfInBounds_toArray, List.set_cons_zero, List.set_cons_succ]
    refine wpAnyH_done (by kernel_rfl) ?_ _
    clear hS
    go_wp2
    go_ret
    exact ⟨rfl, HX.out⟩
  | some g =>
    simp only [Option.map_some] at LV ⊢
    go_enter Tryz.func44, Tryz.ntmps44
    go_wp2
    have hS0 : (fun z : World => Below w.heap.size w z ∧ z.cell? ⟨K, 9, none⟩ = some (.int .i64 ag)) w.drew := ⟨(Below.refl _ _).drew, H9.out⟩
    refine wp_region_held_drew (S := fun z : World => Below w.heap.size w z ∧ z.cell? ⟨K, 9, none⟩ = some (.int .i64 ag)) (by kernel_rfl) hS0 (fun hS => ?_)
    clear hS0
    refine wpAnyH_take (i := 0) (v := ?rv7) rfl (by kernel_rfl) (by kernel_rfl) (by kernel_rfl) (fun _ _ _ h => h) (Or.inl ⟨by rfl, ?ry7⟩) hS ?rr7
    case ry7 => (intro w hw; clear hw; go_simp; try with_reducible rfl)
    try simp only [List.getElem_toArray, List.getElem_cons_zero, List.getElem_cons_succ, Act.put, List.setIfInBounds_toArray, List.set_cons_zero, List.set_cons_succ]
    refine wpAnyH_take (i := 2) (v := ?rv8) rfl (by kernel_rfl) (by kernel_rfl) (by kernel_rfl) (fun _ _ _ h => h) (Or.inl ⟨by rfl, ?ry8⟩) hS ?rr8
    case ry8 => (intro w hw; clear hw; go_simp; try with_reducible rfl)
    try simp only [List.getElem_toArray, List.getElem_cons_zero, List.getElem_cons_succ, Act.put, List.setIfInBounds_toArray, List.set_cons_zero, List.set_cons_succ]
    refine wpAnyH_take (i := 3) (v := ?rv9) rfl (by kernel_rfl) (by kernel_rfl) (by kernel_rfl) (fun _ _ _ h => h) (Or.inl ⟨by rfl, ?ry9⟩) hS ?rr9
    case ry9 => (intro w hw; clear hw; go_simp; try with_reducible rfl)
    try simp only [List.getElem_toArray, List.getElem_cons_zero, List.getElem_cons_succ, Act.put, List.setIfInBounds_toArray, List.set_cons_zero, List.set_cons_succ]
    refine wpAnyH_take (i := 4) (v := ?rv10) rfl (by kernel_rfl) (by kernel_rfl) (by kernel_rfl) (fun _ _ _ h => h) (Or.inl ⟨by rfl, ?ry10⟩) hS ?rr10
    case ry10 => (intro w hw; clear hw; go_simp; try with_reducible rfl)
    try simp only [List.getElem_toArray, List.getElem_cons_zero, List.getElem_cons_succ, Act.put, List.setIfInBounds_toArray, List.set_cons_zero, List.set_cons_succ]
    refine wpAnyH_take (i := 5) (v := ?rv14) rfl (by kernel_rfl) (by kernel_rfl) (by kernel_rfl) (fun _ _ _ h => h) (Or.inl ⟨by rfl, ?ry14⟩) hS ?rr14
    case ry14 => (intro w hw; obtain ⟨_, s1⟩ := hw; go_simp; try with_reducible rfl)
    try simp only [List.getElem_toArray, List.getElem_cons_zero, List.getElem_cons_succ, Act.put, List.setIfInBounds_toArray, List.set_cons_zero, List.set_cons_succ]
    refine wpAnyH_ready (rs := [1]) (by kernel_rfl) (by simp) ?_
    refine AllReadyH.cons rfl (fun K hK => ?_) AllReadyH.nil
    go_simp
    refine (LV.out _ hS.1).mono ?_
    rintro e Y4 ⟨rfl, hbf⟩
    have HX := hid (hS.1.trans (hbf.mono hS.1.size))
    clear hbf
    refine hK.out _ _ ⟨HX.out, (Below.cell HX.out (World.block_lt_of_cell? _ _ H9.out)).trans H9.out⟩ (fun hS => ?_)
    clear hK K
    refine wpAnyH_take (i := 6) (v := ?rv11) rfl (by kernel_rfl) (by kernel_rfl) (by kernel_rfl) (fun _ _ _ h => h) (Or.inl ⟨by rfl, ?ry11⟩) hS ?rr11
    case ry11 => (intro w hw; clear hw; go_simp; try with_reducible rfl)
    try simp only [List.getElem_toArray, List.getElem_cons_zero, List.getElem_cons_succ, Act.put, List.setIfInBounds_toArray, List.set_cons_zero, List.set_cons_succ]
    refine wpAnyH_take (i := 7) (v := ?rv12) rfl (by kernel_rfl) (by kernel_rfl) (by kernel_rfl) (fun _ _ _ h => h) (Or.inl ⟨by rfl, ?ry12⟩) hS ?rr12
    case ry12 => (intro w hw; clear hw; go_simp; try with_reducible rfl)
    try simp only [List.getElem_toArray, List.getElem_cons_zero, List.getElem_cons_succ, Act.put, List.setIfInBounds_toArray, List.set_cons_zero, List.set_cons_succ]
    refine wpAnyH_done (by kernel_rfl) ?_ _
    clear hS
    go_wp2
    go_ret
    exact ⟨rfl, HX.out⟩

set_option maxRecDepth 100000 in
set_option maxHeartbeats 4000000 in
theorem agreed_go (K : Nat) (kp me pa : Int) (d : List UInt8) (m : Mm) (arm : Int) (lost : List UInt8) (ag : Nat) (hs : Nat → Int) (gd : Option Nat) (cd : Nat) (gl : Option Nat) (cl : Nat) (gf : Option Nat) (cf : Nat) (w : World) (h : PK w K kp me pa d m arm lost ag hs gd cd gl cl gf cf) (hag : ag ≤ m.ls.length) (h20 : m.ls.length ≤ 20) :
    Calls Tryz.prog 24 #[.pointer (some ⟨K, 0, none⟩)] w fun e w' => ∃ g c, e = .returned (sl g (m.ls.take ag).length c) ∧ OwnLines w w' g c (m.ls.take ag) ∧ Below w.heap.size w w' := by
  have HP := hid h
  have HL : Hid (LinesAt w (gl.map fun k => (⟨k, 0, none⟩ : Addr)) (m.ls.take ag)) := h.lb.take ag
  have hlen : (m.ls.take ag).length = ag := by rw [List.length_take]; omega
  have AV := hid (agreedLines_go K kp me pa d m arm lost ag hs gd cd gl cl gf cf w h hag)
  clear h HP
  rw [hlen]
  generalize m.ls.take ag = ls at *
  subst hlen
  obtain ⟨il, hil, hil0, hil1, hil2⟩ := info_parts Tryz.info27
  have HSRC := hid (fun x (h : LinesAt x (gl.map fun k => (⟨k, 0, none⟩ : Addr)) ls) => lines_src (gl.map fun k => (⟨k, 0, none⟩ : Addr)) cl ls x h)
  go_enter Tryz.func24, Tryz.ntmps24
  go_wp2_with fail
  refine AV.out.mono ?_
  rintro e w2 ⟨rfl, hb⟩
  have HB := hid hb
  clear hb
  unfold sl
  go_wp2_with (at_builtin; refine wpList_appN _ rfl (.const (.slice none 0 0)) (.tmp 4) 28 28 rfl 27 il (.agg #[.int .i64 0, .int .i64 0, .string ⟨#[]⟩]) 3 32 Tryz.underlying28 hil hil0 hil1 hil2 rfl (by rfl) _ rfl ls.length (lnCells ls) (HSRC.out _ (HL.out.below HB.out)) (by omega) (by omega) ?_)
  intro g1 c1 w1 P
  have HO1 := hid (P.lines.base (u := w) HB.out.size)
  have HB1 := hid (HB.out.trans (P.below.mono HB.out.size))
  clear P
  unfold sl
  go_wp2
  go_ret
  exact ⟨g1, c1, rfl, HO1.out, HB1.out⟩

theorem agreedSaid_ : AgreedSaid KIs_ := fun w K F s h hok => by
  obtain ⟨gd, cd, gl, cl, gf, cf, h1, _⟩ := h
  exact agreed_go K _ _ _ _ _ _ _ _ _ gd cd gl cl gf cf w h1 (LK.av_le hok) (LK.mv_len hok)

theorem wpList_appRun {P : Program} {w : World} {ops : Array Oper} {rest : List Oper} {o : Oper} {a : Act} {Q : Exit → Act → World → Prop} (hgd : o.guard = none) (s y : Operand) (t tx : TypeId)
    (ho : o.op = .call { callee := .builtin .append, args := #[s, y], argTypes := #[t, tx] }) (x1 x2 v : Value) (w' : World) (hq : a.eval s = x1) (hx : a.eval y = x2) (hr : (Builtin.append_ #[t, tx] o.type #[x1, x2]).run P w = .ok v w')
    (h : wpList P ops Q rest (a.put o.dst v) w') : wpList P ops Q (o :: rest) a w := by
  refine wpList_plain hgd fun _ hK => ?_
  unfold Oper.wp execOp
  simp only [ho, resolve, invoke, builtin, Sem.run_bind, Sem.run_pure, Result.andThen_ok, List.map_toArray, List.map_cons, List.map_nil, hq, hx, hr]
  exact hK _ _ h

set_option maxRecDepth 100000 in
set_option maxHeartbeats 4000000 in
theorem grow_go (n : Nat) (w : World) (hn : n ≤ 20000000) :
    Calls Tryz.prog 141 #[.slice none 0 0, .int .i64 n] w fun e w' => ∃ b c, e = .returned (sl b 0 c) ∧ OwnBytes w w' b c [] ∧ Below w.heap.size w w' := by
  obtain ⟨ib, hib, hib0, hib1, hib2⟩ := info_parts Tryz.info5
  rcases Nat.eq_zero_or_pos n with h0 | h0
  · subst h0
    go_enter Tryz.func141, Tryz.ntmps141
    go_wp2
    go_ret
    exact ⟨none, 0, rfl, ⟨fun j hj => absurd hj (by simp), .inl ⟨rfl, rfl, rfl⟩, fun k e => by cases e⟩, Below.refl _ _⟩
  · have hrun := Lib.run_append_nil_zeros (P := Tryz.prog) w 31 3 31 5 ib (.int .u8 0) .i64 .i64 Tryz.underlying31 Tryz.underlying3 hib hib0 n h0 (by omega) (by omega) (by rw [hib2]; omega)
    have hge := grownCap_ge w n 0 5
    have hcm : grownCap w n 0 5 ≤ maxLen := grownCap_le_maxLen w n 0 5 (by simp only [maxLen]; omega)
    generalize grownCap w n 0 5 = c at *
    have hz : OwnRow (w.drew.alloc (.cells (Builtin.zeroCells (Value.int .u8 0).cells n ++ Builtin.zeroCells (Value.int .u8 0).cells (c - n)) 5)) 5 1 (some w.heap.size) 0 c := .inr ⟨_, _, rfl, heap_alloc_new w.drew _, by rw [Array.size_append, size_zeroCells, size_zeroCells]; show n * 1 + (c - n) * 1 = c * 1; omega, Nat.zero_le _, hcm⟩
    have HZ := hid hz
    have n0 : (0 : Int) < (n : Int) := by omega
    have n1 : ¬ ((n : Int) < 0) := by omega
    clear hz hcm
    generalize hY : w.drew.alloc (.cells (Builtin.zeroCells (Value.int .u8 0).cells n ++ Builtin.zeroCells (Value.int .u8 0).cells (c - n)) 5) = Y at *
    have HB : Hid (Below w.heap.size w Y) := by show Below _ _ _; rw [← hY]; exact ((Below.refl _ w).drew).alloc (Nat.le_refl _) _
    clear hY
    go_enter Tryz.func141, Tryz.ntmps141
    go_wp2_with (at_builtin; refine wpList_appRun rfl (.tmp 20) (.tmp 21) 31 3 rfl _ _ _ _ rfl rfl hrun ?_)
    go_wp2
    go_ret
    exact ⟨some w.heap.size, c, rfl, ⟨fun j hj => absurd hj (by simp), HZ.out, fun k e => by cases e; exact Nat.le_refl _⟩, HB.out⟩

end Go.Proofs.YtolififimldmlaaGreat
