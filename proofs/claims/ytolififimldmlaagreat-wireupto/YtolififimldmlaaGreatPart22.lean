import Derived.Test.YtolififimldmlaaGreatPart21
import Derived.Test.YtolififimldmlaaGreatPart06
set_option linter.unusedVariables false
set_option linter.unusedSimpArgs false
namespace Go.Proofs.YtolififimldmlaaGreat
open Go.RowKit
attribute [local go_sem ↓] Go.wp_at_zero Go.wp_at_succ

theorem step_appN {P : Program} (w : World) {ops : Array Oper} {o : Oper} {a : Act} {K : Act → World → Prop} {Q : Exit → Act → World → Prop} {E : Prop} (hgd : o.guard = none) (s y : Operand) (t tx : TypeId)
    (ho : o.op = .call { callee := .builtin .append, args := #[s, y], argTypes := #[t, tx] })
    (e : TypeId) (i : TypeInfo) (z : Value) (size bytes : Nat) (ht : P.underlying t = some (.slice e)) (hi : P.info? e = some i) (hz : i.zero = some z)
    (hsize : i.size = size) (hby : i.bytes = bytes) (hzs : z.cells.size = size)
    (hq : a.eval s = .slice none 0 0) (x : Value) (hx : a.eval y = x) (m : Nat) (news : List Value) (hs : Src P size tx x m news w)
    (hbytes : m * bytes ≤ 140737488355328) (h63 : m ≤ 140737488355328)
    (h : ∀ b c w', NilPost w w' e size m news b c → K (a.put o.dst (sl b m c)) w') :
    if Region.wanted o (yielded ops a.tmps) = true then Oper.wp P o a w K Q else E := by
  have hw : Region.wanted o (yielded ops a.tmps) = true := by simp [Region.wanted, hgd]
  rw [if_pos hw]
  obtain ⟨b, c, w', hr, h2⟩ := run_appN (P := P) w t tx o.type e i z size bytes ht hi hz hsize hby hzs x m news hs hbytes h63
  unfold Oper.wp execOp
  simp only [ho, resolve, invoke, builtin, Sem.run_bind, Sem.run_pure, Result.andThen_ok, List.map_toArray, List.map_cons, List.map_nil, hq, hx, hr]
  exact h b c w' h2

theorem bytes_src (a : Option Addr) (n cap : Nat) (l : List UInt8) (w : World) (h : BytesIn w a l) (e : l.length = n) : Src Tryz.prog 1 31 (.slice a n cap) n (u8cells l) w := by
  subst e
  cases l with
  | nil =>
    cases a with
    | none => exact Src.ofNil w Tryz.underlying31 cap
    | some p => exact Src.ofSlice w Tryz.underlying31 p 0 cap [] rfl (fun j u hu => by simp at hu) (fun u hu => by cases hu)
  | cons x xs =>
    obtain ⟨g, o, rfl, _⟩ := h 0 (by simp)
    refine Src.ofSlice w Tryz.underlying31 ⟨g, o, none⟩ _ cap (u8cells (x :: xs)) (by rw [u8cells_len, Nat.mul_one]) (fun j u hu => ?_) (u8cells_one _)
    have hj : j < (x :: xs).length := by
      rcases Nat.lt_or_ge j (x :: xs).length with h | h
      · exact h
      · rw [List.getElem?_eq_none (by rw [u8cells_len]; exact h)] at hu; cases hu
    rw [u8cells_at _ _ hj] at hu
    cases hu
    obtain ⟨g', o', e, hc⟩ := h j hj
    cases e
    rw [addr_add]; exact hc

theorem NilPost.bytes {w w' : World} {l : List UInt8} {n : Nat} {b : Option Nat} {c : Nat} (h : NilPost w w' 5 1 n (u8cells l) b c) (e : l.length = n) : BytesAt w' b l ∧ OwnRow w' 5 1 b l.length c := by
  subst e
  refine ⟨fun j hj => ?_, h.own⟩
  obtain ⟨g, e, hc⟩ := h.new j (by omega)
  exact ⟨g, e, hc.trans (u8cells_at l j hj)⟩

theorem BytesAt.touch1 {w : World} {g : Option Nat} {l : List UInt8} (h : BytesAt w g l) (B j : Nat) (v : Value) (hn : g ≠ some B) : BytesAt (w.setCell ⟨B, j, none⟩ v) g l :=
  h.touch (T := fun k => k = B) ((Touch.refl (fun k => k = B) w).setCell (p := ⟨B, j, none⟩) (fun _ => rfl) v) (fun k e e2 => hn (by rw [e, e2]))
theorem set6 {w : World} {B : Nat} {cur : Array Value} {e : TypeId} {f : Nat × Nat} (h : w.heap[B]? = some (.cells cur e f)) (hs : cur.size = 6) (v0 v1 v2 v3 v4 v5 : Value) :
    ((((((w.setCell ⟨B, 0, none⟩ v0).setCell ⟨B, 1, none⟩ v1).setCell ⟨B, 2, none⟩ v2).setCell ⟨B, 3, none⟩ v3).setCell ⟨B, 4, none⟩ v4).setCell ⟨B, 5, none⟩ v5).heap[B]? = some (.cells #[v0, v1, v2, v3, v4, v5] e f) := by
  match cur, hs with
  | ⟨[a0, a1, a2, a3, a4, a5]⟩, _ =>
    have hh := heap_setCell (heap_setCell (heap_setCell (heap_setCell (heap_setCell (heap_setCell h 0 v0) 1 v1) 2 v2) 3 v3) 4 v4) 5 v5
    simp only [List.setIfInBounds_toArray, List.set_cons_zero, List.set_cons_succ] at hh
    exact hh

/-- A disk was opened. -/
def OpenedD (w : World) (s : List UInt8) (e : Ending) (w' : World) : Prop :=
  ∃ gd cd gl cl, e = .returned (.agg #[sl gd (readD s).2 cd, .int .i64 (readD s).1.view, .int .i64 (readD s).1.last, sl gl (readD s).1.ls.length cl, .int .i64 0, .slice none 0 0]) ∧
    BytesAt w' gd (s.take (readD s).2) ∧ OwnRow w' 5 1 gd (readD s).2 cd ∧ (∀ k, gd = some k → w.heap.size ≤ k) ∧ OwnLines w w' gl cl (readD s).1.ls ∧ Below w.heap.size w w'

theorem openDRet {Q : Ending → World → Prop} {a : Act} {W : World} {B : Nat} {fz : Nat × Nat} {v0 v1 v2 v3 v4 v5 : Value} (hB : W.heap[B]? = some (.cells #[v0, v1, v2, v3, v4, v5] 96 fz))
    (ht : a.tmps[2]? = some (.pointer (some ⟨B, 0, none⟩))) (hd : a.defers = []) (hq : Q (.returned (.agg #[v0, v1, v2, v3, v4, v5])) W) : bodyPost Tryz.prog Tryz.f46 Q Exit.ret a W := by
  have c0 : W.cell? ⟨B, 0, none⟩ = some v0 := (cell_of_heap hB 0).trans rfl
  have c1 : W.cell? ⟨B, 1, none⟩ = some v1 := (cell_of_heap hB 1).trans rfl
  have c2 : W.cell? ⟨B, 2, none⟩ = some v2 := (cell_of_heap hB 2).trans rfl
  have c3 : W.cell? ⟨B, 3, none⟩ = some v3 := (cell_of_heap hB 3).trans rfl
  have c4 : W.cell? ⟨B, 4, none⟩ = some v4 := (cell_of_heap hB 4).trans rfl
  have c5 : W.cell? ⟨B, 5, none⟩ = some v5 := (cell_of_heap hB 5).trans rfl
  exact bodyPost_ret (v := .agg #[v0, v1, v2, v3, v4, v5]) (by simp [results, Tryz.results46, go_sem, ht, c0, c1, c2, c3, c4, c5]) hd hq

set_option maxRecDepth 100000 in
set_option maxHeartbeats 4000000 in
theorem openD_go (g0 o n cap : Nat) (s : List UInt8) (w : World) (hb : BytesIn w (some ⟨g0, o, none⟩) s) (hbl : s.length = n) (hn : s.length ≤ 10000000) (hcap : s.length ≤ cap) : Calls Tryz.prog 46 #[.slice (some ⟨g0, o, none⟩) n cap] w (OpenedD w s) := by
  have HB := hid hb
  clear hb
  obtain ⟨ib, hib, hib0, hib1, hib2⟩ := info_parts Tryz.info5
  have hle := readD_le s
  go_enter Tryz.func46, Tryz.ntmps46
  go_wp2_with fail
  refine (readP_go g0 o n cap s _ (HB.out.below ((Below.refl _ _).alloc (Nat.le_refl _) _)) hbl hn hcap).mono ?_
  rintro e w2 ⟨gl, cl, rfl, hol, hb2⟩
  have HX : Hid (∀ gd cd w', BytesAt w' gd (s.take (readD s).2) → OwnRow w' 5 1 gd (readD s).2 cd → (∀ k, gd = some k → w.heap.size ≤ k) → OwnLines w w' gl cl (readD s).1.ls → Below w.heap.size w w' → OpenedD w s (.returned (.agg #[.slice (gd.map fun k => ⟨k, 0, none⟩) (readD s).2 cd, .int .i64 (readD s).1.view, .int .i64 (readD s).1.last, .slice (gl.map fun k => ⟨k, 0, none⟩) (readD s).1.ls.length cl, .int .i64 0, .slice none 0 0])) w') :=
    fun gd cd w' h1 h2 h3 h4 h5 => ⟨gd, cd, gl, cl, rfl, h1, h2, h3, h4, h5⟩
  have HTL : Hid ((s.take (readD s).2).length = (readD s).2) := by show _ = _; rw [List.length_take]; omega
  have HTB : Hid (BytesIn w (some ⟨g0, o, none⟩) (s.take (readD s).2)) := HB.out.take _
  have W2 : Hid (Below w.heap.size w w2) := ((Below.refl _ w).alloc (Nat.le_refl _) _).trans (hb2.mono (by simp))
  have HOL := hid (hol.base (u := w) (by simp))
  have hRb : w2.heap[w.heap.size]? = some (.cells #[.slice none 0 0, .int .i64 0, .int .i64 0, .slice none 0 0, .int .i64 0, .slice none 0 0] 96 (0, 0)) := by
    rw [hb2.block _ (by simp)]; exact heap_alloc_new w _
  have hglR : Hid (gl ≠ some w.heap.size) := fun e => by have := hol.new _ e; simp at this; omega
  clear hol hb2
  generalize (readD s).1 = m at *
  generalize (readD s).2 = k at *
  generalize s.take k = d at *
  obtain ⟨view, last, ls⟩ := m
  dsimp only at *
  have HMV : Hid ((Mm.mk view last ls).val (gl.map fun k => (⟨k, 0, none⟩ : Addr)) cl = .agg #[.int .i64 view, .int .i64 last, .slice (gl.map fun k => ⟨k, 0, none⟩) ls.length cl]) := rfl
  rw [HMV.out]
  have HRb := hid hRb
  have hRl : w.heap.size < w2.heap.size := heap_lt hRb
  have lk : (k : Int) ≤ (cap : Int) := by omega
  have lk0 : (0 : Int) ≤ (k : Int) := by omega
  clear hRb
  go_wp2
  generalize hY : w2.alloc (.cells #[.int .i64 view, .int .i64 last, .slice (gl.map fun k => ⟨k, 0, none⟩) ls.length cl] 94) = Y
  have sY : Y.heap.size = w2.heap.size + 1 := by rw [← hY]; simp
  have b2Y : Below w2.heap.size w2 Y := by rw [← hY]; exact (Below.refl _ _).alloc (Nat.le_refl _) _
  have HTY : Hid (MBox w2.heap.size 94 (.int .i64 view) (.int .i64 last) (.slice (gl.map fun k => ⟨k, 0, none⟩) ls.length cl) Y) := by show MBox _ _ _ _ _ _; rw [← hY]; exact heap_alloc_new w2 _
  have HRY : Hid (Y.heap[w.heap.size]? = some (.cells #[.slice none 0 0, .int .i64 0, .int .i64 0, .slice none 0 0, .int .i64 0, .slice none 0 0] 96 (0, 0))) := by show _ = _; rw [b2Y.block _ hRl]; exact HRb.out
  have BY : Hid (Below w.heap.size w Y) := W2.out.trans (b2Y.mono W2.out.size)
  have HOY : Hid (OwnLines w Y gl cl ls) := HOL.out.below b2Y
  have HTBY : Hid (BytesIn Y.drew (some ⟨g0, o, none⟩) d) := HTB.out.below BY.out.drew
  clear hY b2Y
  obtain ⟨y0, y1, y2, fy⟩ := mbox_cells HTY.out
  refine wp_region_any (by kernel_rfl) ?_
  try (change wpAny _ _ _ _ _ _ _ (World.drew _))
  refine wpAny_take (i := 0) (v := ?rv1) rfl (by kernel_rfl) (by kernel_rfl) (by kernel_rfl) (fun _ _ _ h => h) (Or.inl ⟨by rfl, ?ry1⟩) ?rr1
  case ry1 => (intro w; go_simp; try with_reducible rfl)
  try simp only [List.getElem_toArray, List.getElem_cons_zero, List.getElem_cons_succ, Act.put, List.setIfInBounds_toArray, List.set_cons_zero, List.set_cons_succ]
  refine wpAny_take (i := 1) (v := ?rv2) rfl (by kernel_rfl) (by kernel_rfl) (by kernel_rfl) (fun _ _ _ h => h) (Or.inl ⟨by rfl, ?ry2⟩) ?rr2
  case ry2 => (intro w; go_simp; try with_reducible rfl)
  try simp only [List.getElem_toArray, List.getElem_cons_zero, List.getElem_cons_succ, Act.put, List.setIfInBounds_toArray, List.set_cons_zero, List.set_cons_succ]
  refine wpAny_take (i := 2) (v := ?rv3) rfl (by kernel_rfl) (by kernel_rfl) (by kernel_rfl) (fun _ _ _ h => h) (Or.inl ⟨by rfl, ?ry3⟩) ?rr3
  case ry3 => (intro w; go_simp; try with_reducible rfl)
  try simp only [List.getElem_toArray, List.getElem_cons_zero, List.getElem_cons_succ, Act.put, List.setIfInBounds_toArray, List.set_cons_zero, List.set_cons_succ]
  refine wpAny_ready (rs := [3, 4]) (by kernel_rfl) (by simp) ?_
  refine AllReady.cons rfl (fun K hK => ?_) (AllReady.cons rfl (fun K hK => ?_) AllReady.nil)
  · skip
    refine step_appN _ rfl (.const (.slice none 0 0)) (.tmp 12) 31 31 rfl 5 ib (.int .u8 0) 1 1 Tryz.underlying31 hib hib0 hib1 hib2 rfl rfl _ rfl k (u8cells d) (bytes_src (some ⟨g0, o, none⟩) k cap d _ HTBY.out HTL.out) (by omega) (by omega) ?_
    intro gd cd w3 P
    have BD := hid (P.bytes HTL.out)
    have bP := P.below
    have hfr : Hid (∀ k, gd = some k → w2.heap.size + 1 ≤ k) := fun k e => by have h : Y.heap.size ≤ k := P.fresh k e; omega
    have R3 : Hid (w3.heap[w.heap.size]? = some (.cells #[.slice none 0 0, .int .i64 0, .int .i64 0, .slice none 0 0, .int .i64 0, .slice none 0 0] 96 (0, 0))) := by
      show _ = _
      rw [bP.block _ (by show w.heap.size < Y.heap.size; omega)]; exact HRY.out
    have T3 : Hid (MBox w2.heap.size 94 (.int .i64 view) (.int .i64 last) (.slice (gl.map fun k => ⟨k, 0, none⟩) ls.length cl) w3) := by
      show _ = _
      rw [bP.block _ (by show w2.heap.size < Y.heap.size; omega)]; exact HTY.out
    have W3 : Hid (Below w.heap.size w w3) := BY.out.drew.trans (bP.mono BY.out.size)
    have O3 : Hid (OwnLines w w3 gl cl ls) := (HOY.out.below ((Below.refl _ _).drew)).below bP
    clear P bP
    refine hK _ _ ?_
    clear hK K
    obtain ⟨t0, t1, t2, ft⟩ := mbox_cells T3.out
    have q0 : w3.cell? ⟨w.heap.size, 0, none⟩ = some (.slice none 0 0) := cell_of_heap R3.out 0
    have q1 : w3.cell? ⟨w.heap.size, 1, none⟩ = some (.int .i64 0) := cell_of_heap R3.out 1
    have q2 : w3.cell? ⟨w.heap.size, 2, none⟩ = some (.int .i64 0) := cell_of_heap R3.out 2
    have q3 : w3.cell? ⟨w.heap.size, 3, none⟩ = some (.slice none 0 0) := cell_of_heap R3.out 3
    have q4 : w3.cell? ⟨w.heap.size, 4, none⟩ = some (.int .i64 0) := cell_of_heap R3.out 4
    have q5 : w3.cell? ⟨w.heap.size, 5, none⟩ = some (.slice none 0 0) := cell_of_heap R3.out 5
    have fq : ∀ j, w3.frozen? ⟨w.heap.size, j, none⟩ = false := fun j => frozen_of_heap R3.out j
    have hgdR : Hid (gd ≠ some w.heap.size) := fun e => by have := hfr.out _ e; omega
    simp only [Act.put, List.setIfInBounds_toArray, List.set_cons_zero, List.set_cons_succ, sl]
    refine wpAny_ready (rs := [4]) (by kernel_rfl) (by simp) ?_
    refine AllReady.cons rfl (fun K hK => ?_) AllReady.nil
    go_simp
    refine hK _ _ ?_
    clear hK K
    refine wpAny_take (i := 5) (v := ?rv4) rfl (by kernel_rfl) (by kernel_rfl) (by kernel_rfl) (fun _ _ _ h => h) (Or.inl ⟨by rfl, ?ry4⟩) ?rr4
    case ry4 => (intro w; go_simp; try with_reducible rfl)
    try simp only [List.getElem_toArray, List.getElem_cons_zero, List.getElem_cons_succ, Act.put, List.setIfInBounds_toArray, List.set_cons_zero, List.set_cons_succ]
    refine wpAny_ready (rs := [6]) (by kernel_rfl) (by simp) ?_
    refine AllReady.cons rfl (fun K hK => ?_) AllReady.nil
    go_simp
    refine hK _ _ ?_
    clear hK K
    refine wpAny_done (by kernel_rfl) ?_ _
    go_wp2
    refine openDRet (set6 R3.out rfl _ _ _ _ _ _) rfl rfl (HX.out gd cd _ ?_ ?_ ?_ ?_ ?_)
    · exact ((((((BD.out.1.touch1 w.heap.size 0 _ hgdR.out).touch1 w.heap.size 1 _ hgdR.out).touch1 w.heap.size 2 _ hgdR.out).touch1 w.heap.size 3 _ hgdR.out).touch1 w.heap.size 4 _ hgdR.out).touch1 w.heap.size 5 _ hgdR.out)
    · have h := BD.out.2
      rw [HTL.out] at h
      exact (((((h.setOther w.heap.size 0 _ hgdR.out).setOther w.heap.size 1 _ hgdR.out).setOther w.heap.size 2 _ hgdR.out).setOther w.heap.size 3 _ hgdR.out).setOther w.heap.size 4 _ hgdR.out).setOther w.heap.size 5 _ hgdR.out
    · exact fun k e => by have := hfr.out k e; omega
    · exact (((((O3.out.setOther w.heap.size 0 _ hglR.out).setOther w.heap.size 1 _ hglR.out).setOther w.heap.size 2 _ hglR.out).setOther w.heap.size 3 _ hglR.out).setOther w.heap.size 4 _ hglR.out).setOther w.heap.size 5 _ hglR.out
    · exact (((((W3.out.setCell (p := ⟨w.heap.size, 0, none⟩) (Nat.le_refl _) _).setCell (p := ⟨w.heap.size, 1, none⟩) (Nat.le_refl _) _).setCell (p := ⟨w.heap.size, 2, none⟩) (Nat.le_refl _) _).setCell (p := ⟨w.heap.size, 3, none⟩) (Nat.le_refl _) _).setCell (p := ⟨w.heap.size, 4, none⟩) (Nat.le_refl _) _).setCell (p := ⟨w.heap.size, 5, none⟩) (Nat.le_refl _) _
  · go_simp
    refine hK _ _ ?_
    clear hK K
    refine wpAny_ready (rs := [3]) (by kernel_rfl) (by simp) ?_
    refine AllReady.cons rfl (fun K hK => ?_) AllReady.nil
    refine step_appN _ rfl (.const (.slice none 0 0)) (.tmp 12) 31 31 rfl 5 ib (.int .u8 0) 1 1 Tryz.underlying31 hib hib0 hib1 hib2 rfl rfl _ rfl k (u8cells d) (bytes_src (some ⟨g0, o, none⟩) k cap d _ HTBY.out HTL.out) (by omega) (by omega) ?_
    intro gd cd w3 P
    have BD := hid (P.bytes HTL.out)
    have bP := P.below
    have hfr : Hid (∀ k, gd = some k → w2.heap.size + 1 ≤ k) := fun k e => by have h : Y.heap.size ≤ k := P.fresh k e; omega
    have R3 : Hid (w3.heap[w.heap.size]? = some (.cells #[.slice none 0 0, .int .i64 0, .int .i64 0, .slice none 0 0, .int .i64 0, .slice none 0 0] 96 (0, 0))) := by
      show _ = _
      rw [bP.block _ (by show w.heap.size < Y.heap.size; omega)]; exact HRY.out
    have T3 : Hid (MBox w2.heap.size 94 (.int .i64 view) (.int .i64 last) (.slice (gl.map fun k => ⟨k, 0, none⟩) ls.length cl) w3) := by
      show _ = _
      rw [bP.block _ (by show w2.heap.size < Y.heap.size; omega)]; exact HTY.out
    have W3 : Hid (Below w.heap.size w w3) := BY.out.drew.trans (bP.mono BY.out.size)
    have O3 : Hid (OwnLines w w3 gl cl ls) := (HOY.out.below ((Below.refl _ _).drew)).below bP
    clear P bP
    refine hK _ _ ?_
    clear hK K
    obtain ⟨t0, t1, t2, ft⟩ := mbox_cells T3.out
    have q0 : w3.cell? ⟨w.heap.size, 0, none⟩ = some (.slice none 0 0) := cell_of_heap R3.out 0
    have q1 : w3.cell? ⟨w.heap.size, 1, none⟩ = some (.int .i64 0) := cell_of_heap R3.out 1
    have q2 : w3.cell? ⟨w.heap.size, 2, none⟩ = some (.int .i64 0) := cell_of_heap R3.out 2
    have q3 : w3.cell? ⟨w.heap.size, 3, none⟩ = some (.slice none 0 0) := cell_of_heap R3.out 3
    have q4 : w3.cell? ⟨w.heap.size, 4, none⟩ = some (.int .i64 0) := cell_of_heap R3.out 4
    have q5 : w3.cell? ⟨w.heap.size, 5, none⟩ = some (.slice none 0 0) := cell_of_heap R3.out 5
    have fq : ∀ j, w3.frozen? ⟨w.heap.size, j, none⟩ = false := fun j => frozen_of_heap R3.out j
    have hgdR : Hid (gd ≠ some w.heap.size) := fun e => by have := hfr.out _ e; omega
    simp only [Act.put, List.setIfInBounds_toArray, List.set_cons_zero, List.set_cons_succ, sl]
    refine wpAny_take (i := 5) (v := ?rv5) rfl (by kernel_rfl) (by kernel_rfl) (by kernel_rfl) (fun _ _ _ h => h) (Or.inl ⟨by rfl, ?ry5⟩) ?rr5
    case ry5 => (intro w; go_simp; try with_reducible rfl)
    try simp only [List.getElem_toArray, List.getElem_cons_zero, List.getElem_cons_succ, Act.put, List.setIfInBounds_toArray, List.set_cons_zero, List.set_cons_succ]
    refine wpAny_ready (rs := [6]) (by kernel_rfl) (by simp) ?_
    refine AllReady.cons rfl (fun K hK => ?_) AllReady.nil
    go_simp
    refine hK _ _ ?_
    clear hK K
    refine wpAny_done (by kernel_rfl) ?_ _
    go_wp2
    refine openDRet (set6 R3.out rfl _ _ _ _ _ _) rfl rfl (HX.out gd cd _ ?_ ?_ ?_ ?_ ?_)
    · exact ((((((BD.out.1.touch1 w.heap.size 0 _ hgdR.out).touch1 w.heap.size 1 _ hgdR.out).touch1 w.heap.size 2 _ hgdR.out).touch1 w.heap.size 3 _ hgdR.out).touch1 w.heap.size 4 _ hgdR.out).touch1 w.heap.size 5 _ hgdR.out)
    · have h := BD.out.2
      rw [HTL.out] at h
      exact (((((h.setOther w.heap.size 0 _ hgdR.out).setOther w.heap.size 1 _ hgdR.out).setOther w.heap.size 2 _ hgdR.out).setOther w.heap.size 3 _ hgdR.out).setOther w.heap.size 4 _ hgdR.out).setOther w.heap.size 5 _ hgdR.out
    · exact fun k e => by have := hfr.out k e; omega
    · exact (((((O3.out.setOther w.heap.size 0 _ hglR.out).setOther w.heap.size 1 _ hglR.out).setOther w.heap.size 2 _ hglR.out).setOther w.heap.size 3 _ hglR.out).setOther w.heap.size 4 _ hglR.out).setOther w.heap.size 5 _ hglR.out
    · exact (((((W3.out.setCell (p := ⟨w.heap.size, 0, none⟩) (Nat.le_refl _) _).setCell (p := ⟨w.heap.size, 1, none⟩) (Nat.le_refl _) _).setCell (p := ⟨w.heap.size, 2, none⟩) (Nat.le_refl _) _).setCell (p := ⟨w.heap.size, 3, none⟩) (Nat.le_refl _) _).setCell (p := ⟨w.heap.size, 4, none⟩) (Nat.le_refl _) _).setCell (p := ⟨w.heap.size, 5, none⟩) (Nat.le_refl _) _

end Go.Proofs.YtolififimldmlaaGreat

set_option linter.unusedVariables false
set_option linter.unusedSimpArgs false
namespace Go.Proofs.YtolififimldmlaaGreat

/-- Is a configuration right? -/
def ConfOk (kp me pa : Int) : Prop := (kp = 3 ∨ kp = 5) ∧ 0 ≤ me ∧ me < kp ∧ 2 ≤ pa ∧ pa ≤ 20

/-- A keeper, as the document speaks of it: its configuration, its disk, what that says, how far it will go, what was lost at a write that failed (nothing: it has not), what is agreed, who holds how much. -/
structure LK where
  kp : Int
  me : Int
  pa : Int
  d : List UInt8
  m : Mm
  arm : Int
  lost : List UInt8
  agreed : Nat
  hs : Nat → Int

def LK.dead (s : LK) : Bool := !s.lost.isEmpty
/-- A keeper that was opened. -/
def LK.opened (kp me pa : Int) (d : List UInt8) (m : Mm) : LK := ⟨kp, me, pa, d, m, 0, [], 0, fun _ => 0⟩
/-- What is on its disk. -/
def LK.image (s : LK) (keep : Int) : List UInt8 := s.d ++ s.lost.take keep.toNat
/-- What it tells of itself. -/
def LK.mv (s : LK) : Mm := if s.dead then Mm.zero else s.m
def LK.av (s : LK) : Nat := if s.dead then 0 else s.agreed
/-- What every keeper of a script keeps. -/
def LK.ok (s : LK) : Prop := s.d.length + s.lost.length ≤ 9900000 ∧ ConfOk s.kp s.me s.pa ∧ s.agreed ≤ s.m.ls.length ∧ s.m.ls.length ≤ 20

theorem LK.opened_dead (kp me pa : Int) (d : List UInt8) (m : Mm) : (LK.opened kp me pa d m).dead = false := rfl
theorem LK.image_len (s : LK) (keep : Int) : (s.image keep).length ≤ s.d.length + s.lost.length := by
  unfold LK.image
  rw [List.length_append, List.length_take]
  omega
theorem LK.opened_image (kp me pa : Int) (d : List UInt8) (m : Mm) (keep : Int) : (LK.opened kp me pa d m).image keep = d := by
  unfold LK.image LK.opened
  simp
theorem LK.av_le {s : LK} (h : s.ok) : s.av ≤ s.mv.ls.length := by
  unfold LK.av LK.mv
  cases s.dead
  · exact h.2.2.1
  · simp
theorem LK.mv_len {s : LK} (h : s.ok) : s.mv.ls.length ≤ 20 := by
  unfold LK.mv
  cases s.dead
  · exact h.2.2.2
  · simp [Mm.zero]

theorem readF_len {s : List UInt8} : ∀ (f : Nat) (m : Mm) (at_ : Nat), m.ls.length ≤ 20 → (readF s f m at_).1.ls.length ≤ 20 := by
  intro f
  induction f with
  | zero => intro m at_ h; exact h
  | succ f ih =>
    intro m at_ h
    unfold readF
    split
    · exact h
    · split
      · exact h
      · rename_i m' hm
        exact ih _ _ (okM_len (doesM_ok hm))
theorem readD_len (s : List UInt8) : (readD s).1.ls.length ≤ 20 := readF_len _ _ _ (by simp [Mm.zero])
theorem LK.opened_ok (kp me pa : Int) (l : List UInt8) (hc : ConfOk kp me pa) (hl : l.length ≤ 9900000) : (LK.opened kp me pa (l.take (readD l).2) (readD l).1).ok := by
  refine ⟨?_, hc, Nat.zero_le _, readD_len l⟩
  show (l.take (readD l).2).length + ([] : List UInt8).length ≤ 9900000
  rw [List.length_take]
  simp
  omega

end Go.Proofs.YtolififimldmlaaGreat
