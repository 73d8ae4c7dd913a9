import Derived.Test.YtolififimldmlaaGreatPart10
import Derived.Test.YtolififimldmlaaGreatPart23
set_option linter.unusedVariables false
set_option linter.unusedSimpArgs false
namespace Go.Proofs.YtolififimldmlaaGreat
open Go.RowKit
attribute [local go_sem ↓] Go.wp_at_zero Go.wp_at_succ

/-- Lines lie at a block's head, and behind them eight places of spare room. -/
structure LentL (w : World) (g : Nat) (ls : List Ln) : Prop where
  own : OwnRow w 27 3 (some g) (ls.length + 8) (ls.length + 8)
  at_ : LinesAt w (some ⟨g, 0, none⟩) ls
  sp : ∀ j, ls.length ≤ j → j < ls.length + 8 → w.cell? ⟨g, j * 3, none⟩ = some (.int .i64 0) ∧ w.cell? ⟨g, j * 3 + 1, none⟩ = some (.int .i64 0) ∧ w.cell? ⟨g, j * 3 + 2, none⟩ = some (.string ⟨#[]⟩)

theorem LentL.touch {T : Nat → Prop} {w w' : World} {g : Nat} {ls : List Ln} (h : LentL w g ls) (ht : Touch T w w') (hn : ¬ T g) : LentL w' g ls :=
  ⟨h.own.touch ht (fun k e => by cases e; exact hn), fun j hj => by
    obtain ⟨k, o, e, h0, h1, h2⟩ := h.at_ j hj
    cases e
    exact ⟨g, 0, rfl, ht.cell h0 hn, ht.cell h1 hn, ht.cell h2 hn⟩, fun j h1 h2 => by
    obtain ⟨a, b, c⟩ := h.sp j h1 h2
    exact ⟨ht.cell a hn, ht.cell b hn, ht.cell c hn⟩⟩
theorem LentL.below {w w' : World} {g : Nat} {ls : List Ln} (h : LentL w g ls) (hb : Below w.heap.size w w') : LentL w' g ls := h.touch (T := fun _ => False) (Touch.of_belowAll hb _) (fun e => e)

theorem made3 (n j r : Nat) (hj : j < n) (hr : r < 3) : (madeCells #[.int .i64 0, .int .i64 0, .string ⟨#[]⟩] (n * 3))[j * 3 + r]? = (#[Value.int .i64 0, .int .i64 0, .string ⟨#[]⟩] : Array Value)[r]? := by
  unfold madeCells
  rw [Array.getElem?_map, Array.getElem?_range, if_pos (by omega)]
  simp only [Option.map_some]
  have e : (j * 3 + r) % (#[Value.int .i64 0, .int .i64 0, .string ⟨#[]⟩] : Array Value).size = r := by show (j * 3 + r) % 3 = r; omega
  rw [e]
  match r, hr with
  | 0, _ => rfl
  | 1, _ => rfl
  | 2, _ => rfl

/-- Behind 'make' and 'copy'. -/
theorem lentL_of {w : World} {ls : List Ln} {W : World} (hn : ls.length ≤ 10000000)
    (hW : W = (w.alloc (.cells (madeCells #[.int .i64 0, .int .i64 0, .string ⟨#[]⟩] ((ls.length + 8) * 3)) 27)).setRow w.heap.size (lnCells ls ++ (madeCells #[.int .i64 0, .int .i64 0, .string ⟨#[]⟩] ((ls.length + 8) * 3)).toList.drop (lnCells ls).length).toArray) :
    LentL W w.heap.size ls ∧ Below w.heap.size w W := by
  have hg : (w.alloc (.cells (madeCells #[.int .i64 0, .int .i64 0, .string ⟨#[]⟩] ((ls.length + 8) * 3)) 27)).heap[w.heap.size]? = some (.cells (madeCells #[.int .i64 0, .int .i64 0, .string ⟨#[]⟩] ((ls.length + 8) * 3)) 27 (0, 0)) := heap_alloc_new w _
  have hr := setRow_heap _ w.heap.size _ (lnCells ls ++ (madeCells #[.int .i64 0, .int .i64 0, .string ⟨#[]⟩] ((ls.length + 8) * 3)).toList.drop (lnCells ls).length).toArray 27 (0, 0) hg
  rw [← hW] at hr
  have hsz := size_madeCells #[.int .i64 0, .int .i64 0, .string ⟨#[]⟩] ((ls.length + 8) * 3)
  have hll := lnCells_len ls
  refine ⟨⟨.inr ⟨_, _, rfl, hr, ?_, Nat.le_refl _, by simp only [maxLen]; omega⟩, fun j hj => ⟨_, 0, rfl, ?_⟩, fun j h1 h2 => ?_⟩, ?_⟩
  · simp only [List.size_toArray, List.length_append, List.length_drop, Array.length_toList, hll, hsz]; omega
  · simp only [Nat.zero_add]
    rw [cell_of_heap hr, cell_of_heap hr, cell_of_heap hr]
    simp only [List.getElem?_toArray]
    rw [List.getElem?_append_left (by omega), List.getElem?_append_left (by omega), List.getElem?_append_left (by omega)]
    have a0 := lnCells_at ls j 0 hj (by omega)
    have a1 := lnCells_at ls j 1 hj (by omega)
    have a2 := lnCells_at ls j 2 hj (by omega)
    exact ⟨a0, a1, a2⟩
  · rw [cell_of_heap hr, cell_of_heap hr, cell_of_heap hr]
    simp only [List.getElem?_toArray]
    have q : ∀ r, r < 3 → (lnCells ls ++ (madeCells #[.int .i64 0, .int .i64 0, .string ⟨#[]⟩] ((ls.length + 8) * 3)).toList.drop (lnCells ls).length)[j * 3 + r]? = (#[Value.int .i64 0, .int .i64 0, .string ⟨#[]⟩] : Array Value)[r]? := fun r hr3 => by
      rw [List.getElem?_append_right (by omega), List.getElem?_drop, show (lnCells ls).length + (j * 3 + r - (lnCells ls).length) = j * 3 + r from by omega, Array.getElem?_toList]
      exact made3 _ _ _ (by omega) hr3
    exact ⟨q 0 (by omega), q 1 (by omega), q 2 (by omega)⟩
  · rw [hW]; exact below_setRow ((Below.refl _ _).alloc (Nat.le_refl _) _) (Nat.le_refl _) _

theorem OwnBytes.base {u w x : World} {g : Option Nat} {c : Nat} {l : List UInt8} (h : OwnBytes w x g c l) (hb : u.heap.size ≤ w.heap.size) : OwnBytes u x g c l :=
  ⟨h.at_, h.own, fun k e => Nat.le_trans hb (h.new k e)⟩

theorem packS_len (f : Fr) : (packS f).length ≤ 400 := by
  unfold packS
  split
  · rename_i h
    have := Fr.body_len h
    unfold Fr.bytes withChk
    rw [List.length_append]; simp; omega
  · simp

/-- What a step leaves of the law's world. -/
structure Stepped (x : World) (W : Nat) (psv : Value) (lead : Bool) (gh : Option Nat) (n m : Nat) (y : World) : Prop where
  ex : ∃ gh' cap' H', WI y W psv lead gh' (n + m) cap' H' ∧ (∀ k, gh' = some k → gh = some k ∨ x.heap.size ≤ k)
  tch : Touch (fun k => k = W ∨ gh = some k) x y

set_option maxRecDepth 100000 in
set_option maxHeartbeats 2000000 in
theorem packed_any (HPS : PackSaid) (x : World) (W : Nat) (psv : Value) (lead : Bool) (gh : Option Nat) (n cap : Nat) (H : Nat → HG) (hw : WI x W psv lead gh n cap H) (hn : n ≤ 90000000)
    (f : Fr) (a : Option Addr) (fc : Nat) (hl : LinesAt x a f.lines) (hfl : f.lines.length ≤ 10000000) (hfc : f.lines.length ≤ fc) :
    Calls Tryz.prog 51 #[.pointer (some ⟨W, 0, none⟩), f.val a fc] x fun e y => e = .returned (.bool true) ∧ Stepped x W psv lead gh n 8 y := by
  have HWI := hid hw
  have HL := hid hl
  clear hw hl
  obtain ⟨il, hil, hil0, hil1, hil2⟩ := info_parts Tryz.info27
  have hmk := fun (w : World) => run_make (P := Tryz.prog) w 28 27 il (.agg #[.int .i64 0, .int .i64 0, .string ⟨#[]⟩]) Tryz.underlying28 hil hil0 .i64 .i64 ((f.lines.length : Int) + 8) ((f.lines.length : Int) + 8) (by omega) (by omega) (by rw [hil2]; omega) (by omega)
  simp only [hil1, show ((f.lines.length : Int) + 8).toNat = f.lines.length + 8 from by omega, Value.cells] at hmk
  -- the frame in its box
  obtain ⟨X0, hX0⟩ : ∃ X0, X0 = x.alloc (.cells #[.int .i64 f.kind, .int .i64 f.frm, .int .i64 f.view, .int .i64 f.place, .int .i64 f.agreed, .int .i64 f.last, .int .i64 f.line.c, .int .i64 f.line.t, .string ⟨f.line.s.toArray⟩, .slice a f.lines.length fc] 30) := ⟨_, rfl⟩
  have hB0 : Below x.heap.size x X0 := by rw [hX0]; exact (Below.refl _ _).alloc (Nat.le_refl _) _
  have hcp := fun ty => run_cpy (P := Tryz.prog) (X0.alloc (.cells (madeCells #[.int .i64 0, .int .i64 0, .string ⟨#[]⟩] ((f.lines.length + 8) * 3)) 27)) 28 28 ty 27 il Tryz.underlying28 hil X0.heap.size (f.lines.length + 8) (f.lines.length + 8) _ 27 (heap_alloc_new X0 _)
    (.slice a f.lines.length fc) _ _ (by rw [hil1]; exact lines_src a fc f.lines _ ((HL.out.below hB0).alloc _)) (by omega) (by rw [lnCells_len, size_madeCells]; omega)
  obtain ⟨X1, hX1⟩ : ∃ X1, X1 = (X0.alloc (.cells (madeCells #[.int .i64 0, .int .i64 0, .string ⟨#[]⟩] ((f.lines.length + 8) * 3)) 27)).setRow X0.heap.size (lnCells f.lines ++ (madeCells #[.int .i64 0, .int .i64 0, .string ⟨#[]⟩] ((f.lines.length + 8) * 3)).toList.drop (lnCells f.lines).length).toArray := ⟨_, rfl⟩
  rw [← hX1] at hcp
  have HLL := hid (lentL_of hfl hX1)
  have hs0 : X0.heap.size = x.heap.size + 1 := by rw [hX0]; simp
  have hb0 : X0.heap[x.heap.size]? = some (.cells #[.int .i64 f.kind, .int .i64 f.frm, .int .i64 f.view, .int .i64 f.place, .int .i64 f.agreed, .int .i64 f.last, .int .i64 f.line.c, .int .i64 f.line.t, .string ⟨f.line.s.toArray⟩, .slice a f.lines.length fc] 30 (0, 0)) := by rw [hX0]; exact heap_alloc_new x _
  rw [hs0] at hcp HLL
  have hb1 : X1.heap[x.heap.size]? = some (.cells #[.int .i64 f.kind, .int .i64 f.frm, .int .i64 f.view, .int .i64 f.place, .int .i64 f.agreed, .int .i64 f.last, .int .i64 f.line.c, .int .i64 f.line.t, .string ⟨f.line.s.toArray⟩, .slice a f.lines.length fc] 30 (0, 0)) := by rw [HLL.out.2.block _ (by omega)]; exact hb0
  have HX1 := hid (hB0.trans (HLL.out.2.mono (by omega)))
  have hs1 : x.heap.size + 1 < X1.heap.size := HLL.out.1.own.lt rfl
  have hs1b : x.heap.size < X1.heap.size := by omega
  have c0 : X1.cell? ⟨x.heap.size, 0, none⟩ = _ := cell_of_heap hb1 0
  have c1 : X1.cell? ⟨x.heap.size, 1, none⟩ = _ := cell_of_heap hb1 1
  have c2 : X1.cell? ⟨x.heap.size, 2, none⟩ = _ := cell_of_heap hb1 2
  have c3 : X1.cell? ⟨x.heap.size, 3, none⟩ = _ := cell_of_heap hb1 3
  have c4 : X1.cell? ⟨x.heap.size, 4, none⟩ = _ := cell_of_heap hb1 4
  have c5 : X1.cell? ⟨x.heap.size, 5, none⟩ = _ := cell_of_heap hb1 5
  have c6 : X1.cell? ⟨x.heap.size, 6, none⟩ = _ := cell_of_heap hb1 6
  have c7 : X1.cell? ⟨x.heap.size, 7, none⟩ = _ := cell_of_heap hb1 7
  have c8 : X1.cell? ⟨x.heap.size, 8, none⟩ = _ := cell_of_heap hb1 8
  have c9 : X1.cell? ⟨x.heap.size, 9, none⟩ = _ := cell_of_heap hb1 9
  simp only [List.getElem?_toArray, List.getElem?_cons_zero, List.getElem?_cons_succ] at c0 c1 c2 c3 c4 c5 c6 c7 c8 c9
  rw [hX0] at hcp
  clear hX0 hX1 hB0 hs0 hb0
  have HBX := hid hb1
  clear hb1
  unfold Fr.val sla
  go_enter Tryz.func51, Tryz.ntmps51
  go_wp2_with fail
  refine (HPS f (some ⟨x.heap.size + 1, 0, none⟩) (f.lines.length + 8) _ (HLL.out.1.at_.alloc _) hfl (by omega)).mono ?_
  rintro e X2 ⟨bg, bc, rfl, hob, hb2⟩
  have hb12 : Below X1.heap.size X1 X2 := ((Below.refl _ X1).alloc (Nat.le_refl _) _).trans (hb2.mono (by simp))
  have HOB := hid (OwnBytes.base hob (show X1.heap.size ≤ _ by simp))
  have LL2 := hid (HLL.out.1.below hb12)
  have HX2 := hid (HX1.out.trans (hb12.mono HX1.out.size))
  have HBX2 := hid ((hb12.block x.heap.size hs1b).trans HBX.out)
  have hs2 : X1.heap.size < X2.heap.size := by have := hb2.size; simp at this; omega
  clear hb12 hb2 hob c0 c1 c2 c3 c4 c5 c6 c7 c8 c9 hcp hmk
  have c0 : X2.cell? ⟨x.heap.size, 0, none⟩ = _ := cell_of_heap HBX2.out 0
  have c1 : X2.cell? ⟨x.heap.size, 1, none⟩ = _ := cell_of_heap HBX2.out 1
  have c2 : X2.cell? ⟨x.heap.size, 2, none⟩ = _ := cell_of_heap HBX2.out 2
  have c3 : X2.cell? ⟨x.heap.size, 3, none⟩ = _ := cell_of_heap HBX2.out 3
  have c4 : X2.cell? ⟨x.heap.size, 4, none⟩ = _ := cell_of_heap HBX2.out 4
  have c5 : X2.cell? ⟨x.heap.size, 5, none⟩ = _ := cell_of_heap HBX2.out 5
  have c6 : X2.cell? ⟨x.heap.size, 6, none⟩ = _ := cell_of_heap HBX2.out 6
  have c7 : X2.cell? ⟨x.heap.size, 7, none⟩ = _ := cell_of_heap HBX2.out 7
  have c8 : X2.cell? ⟨x.heap.size, 8, none⟩ = _ := cell_of_heap HBX2.out 8
  have c9 : X2.cell? ⟨x.heap.size, 9, none⟩ = _ := cell_of_heap HBX2.out 9
  simp only [List.getElem?_toArray, List.getElem?_cons_zero, List.getElem?_cons_succ] at c0 c1 c2 c3 c4 c5 c6 c7 c8 c9
  unfold sl
  go_wp2_with fail
  have HRP := hid (refPack_any f a fc X2 (HL.out.below HX2.out) (by omega) hfc)
  unfold Fr.val sla at HRP
  refine HRP.out.mono ?_
  rintro e X3 ⟨rfl, hb3⟩
  have HOB3 := hid (HOB.out.below hb3)
  have LL3 := hid (LL2.out.below hb3)
  have HX3 := hid (HX2.out.trans (hb3.mono HX2.out.size))
  have HL3 := hid (HL.out.below HX3.out)
  have HBX3 := hid ((hb3.block x.heap.size (by omega)).trans HBX2.out)
  have hs3 : X2.heap.size ≤ X3.heap.size := hb3.size
  clear hb3 c0 c1 c2 c3 c4 c5 c6 c7 c8 c9 HRP
  have hconv := conv_bytes bg bc (packS f) X3 HOB3.out.at_
  have hE : (packE f == packE f) = true := by simp
  go_wp2
  have c9 : X3.cell? ⟨x.heap.size, 9, none⟩ = _ := cell_of_heap HBX3.out 9
  simp only [List.getElem?_toArray, List.getElem?_cons_zero, List.getElem?_cons_succ] at c9
  clear hconv hE
  go_loopw [11, 12] (fun ok i wr => ∃ (k m : Nat), k ≤ f.lines.length + 8 ∧ i = .int .i64 k ∧ ok = .bool true ∧ wr = X3.drewN m) (fun _ i _ => f.lines.length + 8 - (intOf i).toNat)
  case atStart => exact ⟨0, 0, Nat.zero_le _, rfl, rfl, rfl⟩
  case round =>
    obtain ⟨k, m, hk, rfl, rfl, rfl⟩ := hrel
    by_cases hlt : k < f.lines.length + 8
    · have b1 : (0 : Int) ≤ (k : Int) := by omega
      have b2 : (k : Int) < (f.lines.length : Int) + 8 := by omega
      by_cases hl : k < f.lines.length
      · obtain ⟨g, o, rfl, h0, h1, h2⟩ := HL3.out k hl
        obtain ⟨g', o', e', h0', h1', h2'⟩ := LL3.out.at_ k hl
        cases e'
        simp only [Nat.zero_add] at h0' h1' h2'
        generalize f.lines[k] = y at h0 h1 h2 h0' h1' h2'
        have b3 : (k : Int) < (f.lines.length : Int) := by omega
        have b5 : decide ((k : Int) < (f.lines.length : Int)) = true := by simp; omega
        have b6 : decide ((f.lines.length : Int) ≤ (k : Int)) = false := by simp; omega
        have b7 : decide (f.lines.length ≤ k) = false := by simp; omega
        go_wp2
        go_quiet (fail)
        go_wp2
        go_roundw
        case rel => exact ⟨k + 1, _, by omega, by go_num, by first | rfl | simp, rfl⟩
        case measure => simp [intOf]; omega
      · obtain ⟨h0, h1, h2⟩ := LL3.out.sp k (by omega) hlt
        have b3 : decide ((k : Int) < (f.lines.length : Int)) = false := by simp; omega
        have b4 : decide ((f.lines.length : Int) ≤ (k : Int)) = true := by simp; omega
        have b5 : decide (k < f.lines.length) = false := by simp; omega
        have b6 : decide (f.lines.length ≤ k) = true := by simp; omega
        go_wp2
        go_quiet (fail)
        go_wp2
        go_roundw
        case rel => exact ⟨k + 1, _, by omega, by go_num, by first | rfl | simp, rfl⟩
        case measure => simp [intOf]; omega
    · go_wp2_with fail
      have hbg : ∀ k', bg = some k' → X1.heap.size ≤ k' := HOB3.out.new
      have hpl := packS_len f
      have WY := hid (HWI.out.below (below_drewN HX3.out m))
      refine (keep_hold (X3.drewN m) W psv lead gh n cap H WY.out bg none none (packS f).length bc 0 0 0 0 HOB3.out.own (.inl ⟨rfl, rfl, rfl⟩) (.inl ⟨rfl, rfl, rfl⟩) (fun g _ e => by cases e) (fun g _ e => by cases e) (fun g e => by cases e)
        (fun k' e => HWI.out.free_new (by rcases e with e | e | e; (have := hbg k' e; omega); cases e; cases e)) (by omega) (by omega) (by omega) (by omega)).mono ?_
      rintro e Y1 ⟨rfl, K1⟩
      obtain ⟨⟨gh1, cap1, H1, W1, g1, f1⟩, t1⟩ := K1
      have HW1 := hid W1
      have HG1 := hid g1
      have HF1 := hid f1
      have HT1 := hid t1
      clear W1 g1 f1 t1
      have HFL := hid (HF1.out (x.heap.size + 1) (by show _ < X3.heap.size; omega) (HWI.out.free_new (by omega)) (fun e => by rcases e with e | e | e; (have := hbg _ e; omega); cases e; cases e))
      have hol : OwnRow (X3.drewN m) 27 3 (some (x.heap.size + 1)) (f.lines.length + 8) (f.lines.length + 8) := LL3.out.own
      have HOL := hid (OwnRow.touch hol HT1.out (fun k' e t => by
        have e := Option.some.inj e
        subst e
        rcases t with t | t | t | t | t
        · have := heap_lt HWI.out.wb; omega
        · have := HWI.out.ow.lt t; omega
        · have := hbg _ t; omega
        · cases t
        · cases t))
      clear hol
      go_wp2_with fail
      refine (keep_hold Y1 W psv lead gh1 (n + 4) cap1 H1 HW1.out none (some (x.heap.size + 1)) none 0 0 (f.lines.length + 8) (f.lines.length + 8) 0 0 (.inl ⟨rfl, rfl, rfl⟩) HOL.out (.inl ⟨rfl, rfl, rfl⟩) (fun g e => by cases e) (fun g e => by cases e) (fun g _ e => by cases e)
        (fun k' e => by rcases e with e | e | e; cases e; (cases e; exact HFL.out); cases e) (by omega) (by omega) (by omega) (by omega)).mono ?_
      rintro e Y2 ⟨rfl, K2⟩
      have HK2 := hid K2
      clear K2
      go_wp2
      go_ret
      refine ⟨rfl, ?_, ?_⟩
      · obtain ⟨gh2, cap2, H2, W2, g2, _⟩ := HK2.out.ex
        refine ⟨gh2, cap2, H2, W2, fun k' e => ?_⟩
        have hsz := HX3.out.size
        rcases g2 k' e with e | e
        · rcases HG1.out k' e with e | e
          · exact .inl e
          · exact .inr (Nat.le_trans hsz e)
        · have h1 := HT1.out.size
          exact .inr (Nat.le_trans (Nat.le_trans hsz h1) e)
      · have t0 : Touch (fun k => k = W ∨ gh = some k) x (X3.drewN m) := Touch.of_belowAll (below_drewN HX3.out m) _
        refine (t0.trans HT1.out (fun i hi e => ?_)).trans HK2.out.tch (fun i hi e => ?_)
        · rcases e with e | e | e | e | e
          · exact .inl e
          · exact .inr e
          · have := hbg _ e; omega
          · cases e
          · cases e
        · rcases e with e | e | e | e | e
          · exact .inl e
          · rcases HG1.out i e with e | e
            · exact .inr e
            · have hsz : x.heap.size ≤ X3.heap.size := HX3.out.size
              have e' : X3.heap.size ≤ i := e
              omega
          · cases e
          · cases e; omega
          · cases e

end Go.Proofs.YtolififimldmlaaGreat
