import Derived.Test.YtolififimldmlaaGreatPart16
import Derived.Test.YtolififimldmlaaGreatPart02
import Derived.Deep.RegionHeld3
set_option linter.unusedVariables false
set_option linter.unusedSimpArgs false
namespace Go.Proofs.YtolififimldmlaaGreat
open Go.RowKit
attribute [local go_sem ↓] Go.wp_at_zero Go.wp_at_succ

theorem below_cast {B : Nat} {a x x' : World} (h : Below B a x) (e1 : x'.heap = x.heap) (e2 : x'.os = x.os) (e3 : x'.tape = x.tape) (e4 : x'.output = x.output) : Below B a x' :=
  ⟨e2.trans h.os, e3.trans h.tape, e4.trans h.output, by rw [e1]; exact h.size, fun k hk => by rw [e1]; exact h.block k hk⟩
theorem below_on {a x x' y : World} (h : Below a.heap.size a x) (g : Below x'.heap.size x' y) (e1 : x'.heap = x.heap) (e2 : x'.os = x.os) (e3 : x'.tape = x.tape) (e4 : x'.output = x.output) : Below a.heap.size a y :=
  (below_cast h e1 e2 e3 e4).trans (g.mono (by rw [e1]; exact h.size))
theorem cell_heap {x x' : World} (e1 : x'.heap = x.heap) (p : Addr) : x'.cell? p = x.cell? p := by unfold World.cell?; rw [e1]
theorem LinesAt.cast {x x' : World} {a : Option Addr} {ls : List Ln} (h : LinesAt x a ls) (e1 : x'.heap = x.heap) : LinesAt x' a ls := fun j hj => by
  obtain ⟨g, o, e, h0, h1, h2⟩ := h j hj
  exact ⟨g, o, e, (cell_heap e1 _).trans h0, (cell_heap e1 _).trans h1, (cell_heap e1 _).trans h2⟩
theorem lines_on {x x' y : World} {a : Option Addr} {ls : List Ln} (h : LinesAt x a ls) (g : Below x'.heap.size x' y) (e1 : x'.heap = x.heap) : LinesAt y a ls := (h.cast e1).below g

theorem greatest_at (g o n cap : Nat) (ls : List Ln) (c : Int) (w : World) (hl : LinesAt w (some ⟨g, o, none⟩) ls) (hn : ls.length ≤ 100000000) (e : ls.length = n) :
    Calls Tryz.prog 121 #[.slice (some ⟨g, o, none⟩) n cap, .int .i64 c] w fun e w' => e = .returned (.int .i64 (turnOf ls c)) ∧ Below w.heap.size w w' := by
  subst e; exact greatest_any (some ⟨g, o, none⟩) cap ls c w hl hn

set_option maxHeartbeats 1000000 in
theorem right_lines (a : Option Addr) (cap : Nat) (ls : List Ln) (w : World) (hl : LinesAt w a ls) (hn : ls.length ≤ 100000000) (hcap : ls.length ≤ cap) :
    Calls Tryz.prog 161 #[sla a ls.length cap] w fun e w' => e = .returned (.bool (linesOk ls)) ∧ Below w.heap.size w w' := by
  have HL := hid hl
  clear hl
  unfold sla
  by_cases h20 : 20 < ls.length
  · go_enter Tryz.func161, Tryz.ntmps161
    go_wp2
    go_ret
    exact ⟨ret_bool (by unfold linesOk; simp; omega), Below.refl _ _⟩
  go_enter Tryz.func161, Tryz.ntmps161
  go_wp2
  go_loopw [10] (fun i wr => ∃ k : Nat, k ≤ ls.length ∧ i = .int .i64 k ∧ linesRise ls k = true ∧ Below w.heap.size w wr) (fun i _ => ls.length - (intOf i).toNat)
  case atStart => exact ⟨0, Nat.zero_le _, rfl, rfl, Below.refl _ _⟩
  case round =>
    obtain ⟨k, hk, rfl, hri, hb⟩ := hrel
    have HR := hid hri
    have HB := hid hb
    clear hri hb
    by_cases hlt : k < ls.length
    · have HLr := hid (HL.out.below HB.out)
      obtain ⟨g, o, rfl, h0, h1, h2⟩ := HLr.out k hlt
      have HS := hid (linesRise_succ ls k)
      have HF := hid (fun e => linesRise_false ls hlt e)
      have HX : Hid (riseAt ls k = (ls[k].ok && decide (turnOf (ls.take k) ls[k].c < ls[k].t))) := by unfold riseAt; rw [getD_at ls k _ hlt]; rfl
      have HT : Hid ((ls.take k).length = k) := by show (ls.take k).length = k; simp; omega
      generalize hx : ls[k] = x at HX h0 h1 h2
      go_wp2_with fail
      generalize hY : wr.alloc (.cells #[.int .i64 x.c, .int .i64 x.t, .string ⟨x.s.toArray⟩] 27) = Y
      have HY : Hid (Below w.heap.size w Y) := by rw [← hY]; exact HB.out.alloc HB.out.size _
      have HLy : Hid (LinesAt Y (some ⟨g, o, none⟩) (ls.take k)) := by rw [← hY]; exact (HLr.out.take k).mono ((Below.refl wr.heap.size wr).alloc (Nat.le_refl _) _) (Nat.le_refl _)
      have yy : ∀ j, Y.cell? ⟨wr.heap.size, j, none⟩ = (#[Value.int .i64 x.c, .int .i64 x.t, .string ⟨x.s.toArray⟩] : Array Value)[j]? := fun j => by rw [← hY]; exact World.cell?_alloc_new _ _ _ _
      have y0 : Y.cell? ⟨wr.heap.size, 0, none⟩ = some (.int .i64 x.c) := yy 0
      have y1 : Y.cell? ⟨wr.heap.size, 1, none⟩ = some (.int .i64 x.t) := yy 1
      have y2 : Y.cell? ⟨wr.heap.size, 2, none⟩ = some (.string ⟨x.s.toArray⟩) := yy 2
      generalize wr.heap.size = B at *
      have HRL := hid (fun v => rightLine_any x v)
      have hik : (0 : Int) ≤ (k : Int) := by omega
      have hik2 : (k : Int) ≤ (cap : Int) := by omega
      have hik3 : (k : Int) < (ls.length : Int) := by omega
      clear hY yy h0 h1 h2 hx HLr HL
      generalize hok : x.ok = ok at *
      cases ok
      · refine wp_region_any (by kernel_rfl) ?_
        try (change wpAny _ _ _ _ _ _ _ (World.drew _))
        refine wpAny_ready (rs := [0]) (by kernel_rfl) (by simp) ?_
        refine AllReady.cons rfl (fun K hK => ?_) AllReady.nil
        go_simp
        refine hK _ _ ?_
        clear hK K
        refine wpAny_ready (rs := [1]) (by kernel_rfl) (by simp) ?_
        refine AllReady.cons rfl (fun K hK => ?_) AllReady.nil
        go_simp
        refine (HRL.out _).mono ?_
        rintro e wf ⟨rfl, hbf⟩
        have HY := hid (below_on HY.out hbf rfl rfl rfl rfl)
        clear hbf
        go_simp
        refine hK _ _ ?_
        clear hK K
        refine wpAny_take (i := 2) (v := ?rv1) rfl (by kernel_rfl) (by kernel_rfl) (by kernel_rfl) (fun _ _ _ h => h) (Or.inl ⟨by rfl, ?ry1⟩) ?rr1
        case ry1 => (intro w; go_simp; try with_reducible rfl)
        try simp only [List.getElem_toArray, List.getElem_cons_zero, List.getElem_cons_succ, Act.put, List.setIfInBounds_toArray, List.set_cons_zero, List.set_cons_succ]
        refine wpAny_take (i := 3) (v := ?rv2) rfl (by kernel_rfl) (by kernel_rfl) (by kernel_rfl) (fun _ _ _ h => h) (Or.inl ⟨by rfl, ?ry2⟩) ?rr2
        case ry2 => (intro w; go_simp; try with_reducible rfl)
        try simp only [List.getElem_toArray, List.getElem_cons_zero, List.getElem_cons_succ, Act.put, List.setIfInBounds_toArray, List.set_cons_zero, List.set_cons_succ]
        refine wpAny_take (i := 4) (v := undef) rfl (by kernel_rfl) (by kernel_rfl) (by kernel_rfl) (fun _ _ _ h => h) (Or.inr ⟨by kernel_rfl, rfl⟩) ?_
        try simp only [List.getElem_toArray, List.getElem_cons_zero, List.getElem_cons_succ, Act.put, List.setIfInBounds_toArray, List.set_cons_zero, List.set_cons_succ]
        refine wpAny_take (i := 5) (v := undef) rfl (by kernel_rfl) (by kernel_rfl) (by kernel_rfl) (fun _ _ _ h => h) (Or.inr ⟨by kernel_rfl, rfl⟩) ?_
        try simp only [List.getElem_toArray, List.getElem_cons_zero, List.getElem_cons_succ, Act.put, List.setIfInBounds_toArray, List.set_cons_zero, List.set_cons_succ]
        refine wpAny_take (i := 6) (v := undef) rfl (by kernel_rfl) (by kernel_rfl) (by kernel_rfl) (fun _ _ _ h => h) (Or.inr ⟨by kernel_rfl, rfl⟩) ?_
        try simp only [List.getElem_toArray, List.getElem_cons_zero, List.getElem_cons_succ, Act.put, List.setIfInBounds_toArray, List.set_cons_zero, List.set_cons_succ]
        refine wpAny_take (i := 7) (v := undef) rfl (by kernel_rfl) (by kernel_rfl) (by kernel_rfl) (fun _ _ _ h => h) (Or.inr ⟨by kernel_rfl, rfl⟩) ?_
        try simp only [List.getElem_toArray, List.getElem_cons_zero, List.getElem_cons_succ, Act.put, List.setIfInBounds_toArray, List.set_cons_zero, List.set_cons_succ]
        refine wpAny_take (i := 8) (v := undef) rfl (by kernel_rfl) (by kernel_rfl) (by kernel_rfl) (fun _ _ _ h => h) (Or.inr ⟨by kernel_rfl, rfl⟩) ?_
        try simp only [List.getElem_toArray, List.getElem_cons_zero, List.getElem_cons_succ, Act.put, List.setIfInBounds_toArray, List.set_cons_zero, List.set_cons_succ]
        refine wpAny_take (i := 9) (v := undef) rfl (by kernel_rfl) (by kernel_rfl) (by kernel_rfl) (fun _ _ _ h => h) (Or.inr ⟨by kernel_rfl, rfl⟩) ?_
        try simp only [List.getElem_toArray, List.getElem_cons_zero, List.getElem_cons_succ, Act.put, List.setIfInBounds_toArray, List.set_cons_zero, List.set_cons_succ]
        refine wpAny_take (i := 10) (v := undef) rfl (by kernel_rfl) (by kernel_rfl) (by kernel_rfl) (fun _ _ _ h => h) (Or.inr ⟨by kernel_rfl, rfl⟩) ?_
        try simp only [List.getElem_toArray, List.getElem_cons_zero, List.getElem_cons_succ, Act.put, List.setIfInBounds_toArray, List.set_cons_zero, List.set_cons_succ]
        refine wpAny_take (i := 11) (v := undef) rfl (by kernel_rfl) (by kernel_rfl) (by kernel_rfl) (fun _ _ _ h => h) (Or.inr ⟨by kernel_rfl, rfl⟩) ?_
        try simp only [List.getElem_toArray, List.getElem_cons_zero, List.getElem_cons_succ, Act.put, List.setIfInBounds_toArray, List.set_cons_zero, List.set_cons_succ]
        refine wpAny_take (i := 12) (v := undef) rfl (by kernel_rfl) (by kernel_rfl) (by kernel_rfl) (fun _ _ _ h => h) (Or.inr ⟨by kernel_rfl, rfl⟩) ?_
        try simp only [List.getElem_toArray, List.getElem_cons_zero, List.getElem_cons_succ, Act.put, List.setIfInBounds_toArray, List.set_cons_zero, List.set_cons_succ]
        refine wpAny_take (i := 13) (v := ?rv3) rfl (by kernel_rfl) (by kernel_rfl) (by kernel_rfl) (fun _ _ _ h => h) (Or.inl ⟨by rfl, ?ry3⟩) ?rr3
        case ry3 => (intro w; go_simp; try with_reducible rfl)
        try simp only [List.getElem_toArray, List.getElem_cons_zero, List.getElem_cons_succ, Act.put, List.setIfInBounds_toArray, List.set_cons_zero, List.set_cons_succ]
        refine wpAny_done (by kernel_rfl) ?_ _
        go_wp2
        go_ret
        exact ⟨ret_bool (HF.out (by rw [HX.out]; rfl)).symm, HY.out⟩
      · go_region_held3 (fun x' => x'.cell? ⟨B, 0, none⟩ = some (.int .i64 x.c) ∧ x'.cell? ⟨B, 1, none⟩ = some (.int .i64 x.t) ∧ x'.cell? ⟨B, 2, none⟩ = some (.string ⟨x.s.toArray⟩))
          (first | go_keep | (go_split_ands; refine ⟨?_, ?_, ?_⟩ <;> (refine (hbf.cell (World.block_lt_of_cell? _ _ (by assumption))).trans ?_; assumption)))
          (first | (go_at_call 160; refine (HRL.out _).mono ?_; rintro e wf ⟨rfl, hbf⟩; have HY := hid (below_on HY.out hbf rfl rfl rfl rfl); have HLy := hid (lines_on HLy.out hbf rfl)) | (go_at_call 121; refine (greatest_at g o k cap (ls.take k) x.c _ (HLy.out.cast rfl) (by have := HT.out; omega) HT.out).mono ?_; rintro e wf ⟨rfl, hbf⟩; have HY := hid (below_on HY.out hbf rfl rfl rfl rfl)))
        generalize turnOf (ls.take k) x.c = T at HX ⊢
        by_cases hT : T < x.t
        · go_wp2
          go_roundw
          case rel =>
            exact ⟨k + 1, by omega, by go_num, by rw [HS.out, HR.out, HX.out]; simp [hT], HY.out⟩
          case measure => simp [intOf]; omega
        · have hT' : x.t ≤ T := by omega
          go_wp2
          go_ret
          exact ⟨ret_bool (HF.out (by rw [HX.out]; simp; omega)).symm, HY.out⟩
    · go_wp2
      go_ret
      have e : k = ls.length := by omega
      subst e
      refine ⟨ret_bool ?_, HB.out⟩
      unfold linesOk
      rw [HR.out, Bool.eq_iff_iff]; simp; omega

end Go.Proofs.YtolififimldmlaaGreat
