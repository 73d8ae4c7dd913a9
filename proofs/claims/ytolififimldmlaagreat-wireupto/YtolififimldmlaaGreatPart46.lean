import Derived.Test.YtolififimldmlaaGreatPart45
set_option linter.unusedVariables false
set_option linter.unusedSimpArgs false
namespace Go.Proofs.YtolififimldmlaaGreat
open Go.RowKit
attribute [local go_sem ↓] Go.wp_at_zero Go.wp_at_succ

theorem Tryz.info63 : (Tryz.prog.info? 63).map (fun i => (i.zero, i.size, i.bytes)) = some (some (.agg #[.int .i64 0, .int .i64 0, .int .i64 0]), 3, 24) := by kernel_rfl
theorem Tryz.info47 : (Tryz.prog.info? 47).map (fun i => (i.zero, i.size, i.bytes)) = some (some (.pointer none), 1, 8) := by kernel_rfl

/-- What 'first' has made: kc configurations, kl keepers. -/
structure FirstAt (wr : World) (N kc kl : Nat) (gc : Option Nat) (cc : Nat) (gl : Option Nat) (cl : Nat) : Prop where
  blk : wr.heap[N]? = some (.cells #[sl gc kc cc, sl gl kl cl, .slice none 0 0, .slice none 0 0, .int .i64 0, .int .i64 0] 52 (0, 0))
  cow : OwnRow wr 63 3 gc kc cc
  low : OwnRow wr 47 1 gl kl cl
  hd : 0 < kl → ∃ g B, gl = some g ∧ wr.cell? ⟨g, 0, none⟩ = some (.pointer (some ⟨B, 0, none⟩)) ∧ (PV.fresh 3 0 5).At wr B ∧ N < B

theorem OwnRow.neT {w : World} {e e' : TypeId} {size n c B : Nat} {b : Option Nat} {cur : Array Value} {f : Nat × Nat} (h : OwnRow w e size b n c) (hB : w.heap[B]? = some (.cells cur e' f)) (hne : e ≠ e') : b ≠ some B := by
  rintro rfl
  rcases h with ⟨h, _⟩ | ⟨g, cu, h, hh, _⟩
  · cases h
  · cases h
    rw [hh] at hB
    simp at hB
    exact hne hB.2.1
theorem OwnRow.neR {w : World} {e e' : TypeId} {size size' n n' c c' : Nat} {b b' : Option Nat} (h : OwnRow w e size b n c) (h' : OwnRow w e' size' b' n' c') (hne : e ≠ e') : ∀ k, b = some k → b' ≠ some k := by
  intro k e1
  rcases h with ⟨h, _⟩ | ⟨g, cu, h, hh, _⟩
  · rw [h] at e1; cases e1
  · rw [h] at e1; cases e1
    exact h'.neT hh (Ne.symm hne)

theorem FirstAt.below {x y : World} {N kc kl : Nat} {gc gl : Option Nat} {cc cl : Nat} (h : FirstAt x N kc kl gc cc gl cl) (hb : Below x.heap.size x y) : FirstAt y N kc kl gc cc gl cl :=
  ⟨(hb.block _ (heap_lt h.blk)).trans h.blk, h.cow.touch (T := fun _ => False) (Touch.of_belowAll hb _) (fun _ _ e => e), h.low.touch (T := fun _ => False) (Touch.of_belowAll hb _) (fun _ _ e => e), fun h0 => by
    obtain ⟨g, B, e, hc, ha, hn⟩ := h.hd h0
    exact ⟨g, B, e, (hb.cell (World.block_lt_of_cell? _ _ hc)).trans hc, ha.below hb, hn⟩⟩
theorem PV.fresh_own {kp me pa : Int} {B k : Nat} (h : (PV.fresh kp me pa).own B k) : k = B := by
  rcases h with h | h | h | h
  · exact h
  · cases h
  · cases h
  · cases h

/-- A configuration more. -/
theorem FirstAt.conf {X Y : World} {N k : Nat} {gc gl : Option Nat} {cc cl g2 c2 : Nat} {news : List Value} (h : FirstAt X N k k gc cc gl cl) (Q : AppPost X Y 63 3 gc k 1 news g2 c2) :
    FirstAt (Y.setCell ⟨N, 0, none⟩ (.slice (some ⟨g2, 0, none⟩) (k + 1) c2)) N (k + 1) k (some g2) c2 gl cl ∧ Touch (fun i => i = N ∨ gc = some i) X (Y.setCell ⟨N, 0, none⟩ (.slice (some ⟨g2, 0, none⟩) (k + 1) c2)) := by
  have hN := heap_lt h.blk
  have n1 : gc ≠ some N := h.cow.neT h.blk (by decide)
  have n2 : gl ≠ some N := h.low.neT h.blk (by decide)
  have n3 : some g2 ≠ some N := fun e => by
    cases e
    rcases Q.lies with e | e
    · exact n1 e
    · omega
  have t : Touch (fun i => i = N ∨ gc = some i) X (Y.setCell ⟨N, 0, none⟩ (.slice (some ⟨g2, 0, none⟩) (k + 1) c2)) := (Q.touch.mono (fun i _ e => .inr e)).setCell (p := ⟨N, 0, none⟩) (fun _ => .inl rfl) _
  have hb := heap_setCell (Q.touch.heapAt h.blk n1) 0 (.slice (some ⟨g2, 0, none⟩) (k + 1) c2)
  simp only [List.setIfInBounds_toArray, List.set_cons_zero] at hb
  refine ⟨⟨hb, Q.own.setOther N 0 _ n3, (h.low.app Q (h.low.neR h.cow (by decide))).setOther N 0 _ n2, fun h0 => ?_⟩, t⟩
  obtain ⟨g, B, e, hc, ha, hn⟩ := h.hd h0
  refine ⟨g, B, e, t.cell hc (fun e2 => ?_), ha.touch t (fun i ei e2 => ?_), hn⟩
  · rcases e2 with e2 | e2
    · exact n2 (by rw [e, ← e2])
    · exact h.low.neR h.cow (by decide) g e e2
  · have := PV.fresh_own ei
    subst this
    rcases e2 with e2 | e2
    · omega
    · exact h.cow.neT ha.blk (by decide) e2

/-- A keeper more. -/
theorem FirstAt.keeper {X Y : World} {N k B0 : Nat} {gc gl : Option Nat} {cc cl g2 c2 : Nat} (h : FirstAt X N (k + 1) k gc cc gl cl) (hv : (PV.fresh 3 k 5).At X B0) (hB : N < B0) (Q : AppPost X Y 47 1 gl k 1 [.pointer (some ⟨B0, 0, none⟩)] g2 c2) :
    FirstAt (Y.setCell ⟨N, 1, none⟩ (.slice (some ⟨g2, 0, none⟩) (k + 1) c2)) N (k + 1) (k + 1) gc cc (some g2) c2 ∧ Touch (fun i => i = N ∨ gl = some i) X (Y.setCell ⟨N, 1, none⟩ (.slice (some ⟨g2, 0, none⟩) (k + 1) c2)) := by
  have hN := heap_lt h.blk
  have n1 : gc ≠ some N := h.cow.neT h.blk (by decide)
  have n2 : gl ≠ some N := h.low.neT h.blk (by decide)
  have n3 : g2 ≠ N := fun e => by
    subst e
    rcases Q.lies with e | e
    · exact n2 e
    · omega
  have t : Touch (fun i => i = N ∨ gl = some i) X (Y.setCell ⟨N, 1, none⟩ (.slice (some ⟨g2, 0, none⟩) (k + 1) c2)) := (Q.touch.mono (fun i _ e => .inr e)).setCell (p := ⟨N, 1, none⟩) (fun _ => .inl rfl) _
  have hb := heap_setCell (Q.touch.heapAt h.blk n2) 1 (.slice (some ⟨g2, 0, none⟩) (k + 1) c2)
  simp only [List.setIfInBounds_toArray, List.set_cons_zero, List.set_cons_succ] at hb
  have key : ∀ me B, (PV.fresh 3 me 5).At X B → N < B → (PV.fresh 3 me 5).At (Y.setCell ⟨N, 1, none⟩ (.slice (some ⟨g2, 0, none⟩) (k + 1) c2)) B := fun me B ha hn => ha.touch t (fun i ei e2 => by
    have := PV.fresh_own ei
    subst this
    rcases e2 with e2 | e2
    · omega
    · exact h.low.neT ha.blk (by decide) e2)
  refine ⟨⟨hb, (h.cow.app Q (h.cow.neR h.low (by decide))).setOther N 1 _ n1, Q.own.setOther N 1 _ (fun e => n3 (Option.some.inj e)), fun _ => ?_⟩, t⟩
  by_cases h0 : 0 < k
  · obtain ⟨g, B, e, hc, ha, hn⟩ := h.hd h0
    refine ⟨g2, B, rfl, ?_, key 0 B ha hn, hn⟩
    rw [cell_set_ne _ (.inl (Ne.symm n3)), Q.old 0 (by omega) g e]; exact hc
  · have e0 : k = 0 := by omega
    subst e0
    refine ⟨g2, B0, rfl, ?_, key 0 B0 hv hB, hB⟩
    rw [cell_set_ne _ (.inl (Ne.symm n3))]
    have := Q.new 0 (by omega)
    rw [Nat.zero_mul, Nat.zero_add] at this
    exact this

set_option maxRecDepth 100000 in
set_option maxHeartbeats 4000000 in
theorem firstK_go (w : World) : Calls Tryz.prog 17 #[.int .i64 3, .int .i64 5] w fun e w' => ∃ gc cc gl cl, e = .returned (.pointer (some ⟨w.heap.size, 0, none⟩)) ∧ FirstAt w' w.heap.size 3 3 gc cc gl cl ∧ Below w.heap.size w w' := by
  obtain ⟨ic, hic, hic0, hic1, hic2⟩ := info_parts Tryz.info63
  obtain ⟨ik, hik, hik0, hik1, hik2⟩ := info_parts Tryz.info47
  go_enter Tryz.func17, Tryz.ntmps17
  go_wp2
  go_loopw [6] (fun i wr => ∃ (k : Nat) (gc : Option Nat) (cc : Nat) (gl : Option Nat) (cl : Nat), k ≤ 3 ∧ i = .int .i64 k ∧ Hid (FirstAt wr w.heap.size k k gc cc gl cl) ∧ Hid (Below w.heap.size w wr) ∧ Hid ((∀ q, gc = some q → w.heap.size ≤ q) ∧ (∀ q, gl = some q → w.heap.size ≤ q))) (fun i _ => 3 - (intOf i).toNat)
  case atStart => exact ⟨0, none, 0, none, 0, Nat.zero_le _, rfl, ⟨heap_alloc_new w _, .inl ⟨rfl, rfl, rfl⟩, .inl ⟨rfl, rfl, rfl⟩, fun h => absurd h (Nat.lt_irrefl _)⟩, (Below.refl _ _).alloc (Nat.le_refl _) _, ⟨(fun q e => by cases e), (fun q e => by cases e)⟩⟩
  case round =>
    obtain ⟨k, gc, cc, gl, cl, hk, rfl, HF, HB, HG⟩ := hrel
    by_cases hlt : k < 3
    · have b1 : (k : Int) < 3 := by omega
      have HOP := hid (fun z => openNil 3 k 5 ⟨.inl rfl, by omega, by omega, by omega, by omega⟩ z)
      go_wp2_with fail
      refine (HOP.out _).mono ?_
      rintro e X1 ⟨B, rfl, hBn, hv, hb1⟩
      rw [World.size_alloc] at hb1 hBn
      have bA : Below wr.heap.size wr X1 := ((Below.refl _ wr).alloc (Nat.le_refl _) _).trans (hb1.mono (by omega))
      have HF1 := hid (HF.out.below bA)
      have HB1 := hid (HB.out.trans (bA.mono HB.out.size))
      have HNB : Hid (w.heap.size < B) := by have := HB.out.size; show _ < _; omega
      have HV := hid hv
      have HCB : Hid (MBox wr.heap.size 63 (.int .i64 3) (.int .i64 k) (.int .i64 5) X1) := (hb1.block _ (by omega)).trans (heap_alloc_new wr _)
      clear hb1 bA hv hBn HOP
      have HN := hid HF1.out.blk
      obtain ⟨q0, q1, q2, fq⟩ := mbox_cells HCB.out
      have Q0 := hid q0
      have Q1 := hid q1
      have Q2 := hid q2
      have N0 : Hid (X1.cell? ⟨w.heap.size, 0, none⟩ = some (.slice (gc.map fun q => ⟨q, 0, none⟩) k cc)) := cell_of_heap HF1.out.blk 0
      clear fq q0 q1 q2
      go_wp2
      refine wp_region_any (by kernel_rfl) ?_
      try (change wpAny _ _ _ _ _ _ _ (World.drew _))
      have HF2 := hid (HF1.out.below ((Below.refl _ X1).drew))
      have HV2 := hid (HV.out.below ((Below.refl _ X1).drew))
      have HB2 : Hid (Below w.heap.size w X1.drew) := HB1.out.drew
      have n0 : X1.drew.cell? ⟨w.heap.size, 0, none⟩ = some (.slice (gc.map fun q => ⟨q, 0, none⟩) k cc) := N0.out
      have q0 : X1.drew.cell? ⟨wr.heap.size, 0, none⟩ = some (.int .i64 3) := Q0.out
      have q1 : X1.drew.cell? ⟨wr.heap.size, 1, none⟩ = some (.int .i64 k) := Q1.out
      have q2 : X1.drew.cell? ⟨wr.heap.size, 2, none⟩ = some (.int .i64 5) := Q2.out
      clear HF1 HV HB1 Q0 Q1 Q2 N0 HN HCB
      generalize X1.drew = Y at *
      have n0a : (Y.alloc (.cells #[.int .i64 3, .int .i64 k, .int .i64 5] 63)).cell? ⟨w.heap.size, 0, none⟩ = some (.slice (gc.map fun q => ⟨q, 0, none⟩) k cc) := cell_alloc_keep n0 _
      have HF3 := hid (HF2.out.below ((Below.refl _ Y).alloc (Nat.le_refl _) (.cells #[.int .i64 3, .int .i64 k, .int .i64 5] 63)))
      have HV3 := hid (HV2.out.below ((Below.refl _ Y).alloc (Nat.le_refl _) (.cells #[.int .i64 3, .int .i64 k, .int .i64 5] 63)))
      have HB3 := hid (HB2.out.alloc HB2.out.size (.cells #[.int .i64 3, .int .i64 k, .int .i64 5] 63))
      have HGN : Hid (gc ≠ some w.heap.size) := HF3.out.cow.neT HF3.out.blk (by decide)
      clear HF2 HV2 HB2
      refine wpAny_take (i := 0) (v := ?rv1) rfl (by kernel_rfl) (by kernel_rfl) (by kernel_rfl) (fun _ _ _ h => h) (Or.inl ⟨by rfl, ?ry1⟩) ?rr1
      case ry1 => (intro w; go_simp; try with_reducible rfl)
      try simp only [List.getElem_toArray, List.getElem_cons_zero, List.getElem_cons_succ, Act.put, List.setIfInBounds_toArray, List.set_cons_zero, List.set_cons_succ]
      refine wpAny_take (i := 1) (v := ?rv2) rfl (by kernel_rfl) (by kernel_rfl) (by kernel_rfl) (fun _ _ _ h => h) (Or.inl ⟨by rfl, ?ry2⟩) ?rr2
      case ry2 => (intro w; go_simp; try with_reducible rfl)
      try simp only [List.getElem_toArray, List.getElem_cons_zero, List.getElem_cons_succ, Act.put, List.setIfInBounds_toArray, List.set_cons_zero, List.set_cons_succ]
      refine wpAny_take (i := 2) (v := ?rv3) rfl (by kernel_rfl) (by kernel_rfl) (by kernel_rfl) (fun _ _ _ h => h) (Or.inl ⟨by rfl, ?ry3⟩) ?rr3
      case ry3 => (intro w; go_simp; try with_reducible rfl)
      try simp only [List.getElem_toArray, List.getElem_cons_zero, List.getElem_cons_succ, Act.put, List.setIfInBounds_toArray, List.set_cons_zero, List.set_cons_succ]
      refine wpAny_take (i := 3) (v := ?rv4) rfl (by kernel_rfl) (by kernel_rfl) (by kernel_rfl) (fun _ _ _ h => h) (Or.inl ⟨by rfl, ?ry4⟩) ?rr4
      case ry4 => (intro w; go_simp; try with_reducible rfl)
      try simp only [List.getElem_toArray, List.getElem_cons_zero, List.getElem_cons_succ, Act.put, List.setIfInBounds_toArray, List.set_cons_zero, List.set_cons_succ]
      refine wpAny_ready (rs := [4, 5]) (by kernel_rfl) (by simp) ?_
      refine AllReady.cons rfl (fun K hK => ?_) (AllReady.cons rfl (fun K hK => ?_) AllReady.nil)
      · go_simp
        refine hK _ _ ?_
        clear hK K
        refine wpAny_ready (rs := [5]) (by kernel_rfl) (by simp) ?_
        refine AllReady.cons rfl (fun K hK => ?_) AllReady.nil
        go_simp
        refine hK _ _ ?_
        clear hK K
        refine wpAny_ready (rs := [6]) (by kernel_rfl) (by simp) ?_
        refine AllReady.cons rfl (fun K hK => ?_) AllReady.nil
        go_simp
        refine hK _ _ ?_
        clear hK K
        refine wpAny_ready (rs := [7]) (by kernel_rfl) (by simp) ?_
        refine AllReady.cons rfl (fun K hK => ?_) AllReady.nil
        refine step_app _ rfl (.tmp 36) (.tmp 38) 48 rfl 63 ic (.agg #[.int .i64 0, .int .i64 0, .int .i64 0]) 3 24 Tryz.underlying48 hic hic0 hic1 hic2 rfl gc k cc (by rfl) HF3.out.cow ⟨Y.heap.size, 0, none⟩ 1 1 [.int .i64 3, .int .i64 k, .int .i64 5] rfl rfl ?c1 ?c2 (by omega) (by omega) (by omega) ?_
        case c1 => exact World.news_of_block (heap_alloc_new Y _)
        case c2 => intro u hu; simp at hu; rcases hu with rfl | rfl | rfl <;> rfl
        intro g2 c2 w3 Q
        have HC := hid (HF3.out.conf Q)
        have m0 : w3.cell? ⟨w.heap.size, 0, none⟩ = some (.slice (gc.map fun q => ⟨q, 0, none⟩) k cc) := Q.touch.cell n0a HGN.out
        have f0 : w3.frozen? ⟨w.heap.size, 0, none⟩ = false := frozen_of_heap (Q.touch.heapAt HF3.out.blk HGN.out) 0
        have HQL : Hid (∀ q, some g2 = some q → w.heap.size ≤ q) := fun q e => by
          cases e
          rcases Q.lies with e | e
          · exact HG.out.1 _ e
          · have := HB3.out.size; omega
        clear Q n0 n0a q0 q1 q2
        refine hK _ _ ?_
        clear hK K
        simp only [Act.put, List.setIfInBounds_toArray, List.set_cons_zero, List.set_cons_succ]
        refine wpAny_take (i := 8) (v := ?rv5) rfl (by kernel_rfl) (by kernel_rfl) (by kernel_rfl) (fun _ _ _ h => h) (Or.inl ⟨by rfl, ?ry5⟩) ?rr5
        case ry5 => (intro w; go_simp; try with_reducible rfl)
        try simp only [List.getElem_toArray, List.getElem_cons_zero, List.getElem_cons_succ, Act.put, List.setIfInBounds_toArray, List.set_cons_zero, List.set_cons_succ]
        refine wpAny_take (i := 9) (v := ?rv6) rfl (by kernel_rfl) (by kernel_rfl) (by kernel_rfl) (fun _ _ _ h => h) (Or.inl ⟨by rfl, ?ry6⟩) ?rr6
        case ry6 => (intro w; go_simp; try with_reducible rfl)
        try simp only [List.getElem_toArray, List.getElem_cons_zero, List.getElem_cons_succ, Act.put, List.setIfInBounds_toArray, List.set_cons_zero, List.set_cons_succ]
        refine wpAny_ready (rs := [10]) (by kernel_rfl) (by simp) ?_
        refine AllReady.cons rfl (fun K hK => ?_) AllReady.nil
        go_simp
        refine hK _ _ ?_
        clear hK K
        refine wpAny_done (by kernel_rfl) ?_ _
        have HV4 := hid (HV3.out.touch HC.out.2 (fun i ei e2 => by
          have := PV.fresh_own ei
          subst this
          rcases e2 with e2 | e2
          · have := HNB.out; omega
          · exact HF3.out.cow.neT HV3.out.blk (by decide) e2))
        have HB4 := hid (HB3.out.trans (HC.out.2.below HB3.out.size (fun i _ e => by
          rcases e with e | e
          · omega
          · exact HG.out.1 i e)))
        have HF4 := hid HC.out.1
        clear HC HF3 HV3 HB3 m0 f0
        generalize w3.setCell ⟨w.heap.size, 0, none⟩ (.slice (some ⟨g2, 0, none⟩) (k + 1) c2) = Z at *
        have n1 : Z.cell? ⟨w.heap.size, 1, none⟩ = some (.slice (gl.map fun q => ⟨q, 0, none⟩) k cl) := cell_of_heap HF4.out.blk 1
        have fz1 : Z.frozen? ⟨w.heap.size, 1, none⟩ = false := frozen_of_heap HF4.out.blk 1
        have HF5 := hid (HF4.out.below ((Below.refl _ Z).alloc (Nat.le_refl _) (.cells #[.pointer (some ⟨B, 0, none⟩)] 47)))
        have HV5 := hid (HV4.out.below ((Below.refl _ Z).alloc (Nat.le_refl _) (.cells #[.pointer (some ⟨B, 0, none⟩)] 47)))
        have HB5 := hid (HB4.out.alloc HB4.out.size (.cells #[.pointer (some ⟨B, 0, none⟩)] 47))
        go_wp2_with (at_builtin; refine wpList_app _ rfl (.tmp 46) (.tmp 48) 49 rfl 47 ik (.pointer none) 1 8 Tryz.underlying49 hik hik0 hik1 hik2 rfl gl k cl (by rfl) HF5.out.low ⟨Z.heap.size, 0, none⟩ 1 1 [.pointer (some ⟨B, 0, none⟩)] rfl rfl ?c3 ?c4 (by omega) (by omega) (by omega) ?_)
        case c3 => exact World.news_of_block (heap_alloc_new Z _)
        case c4 => intro u hu; simp at hu; subst hu; rfl
        intro g3 c3 w4 Q2
        have HD := hid (HF5.out.keeper HV5.out HNB.out Q2)
        have hnl : gl ≠ some w.heap.size := HF5.out.low.neT HF5.out.blk (by decide)
        have m1 : w4.cell? ⟨w.heap.size, 1, none⟩ = some (.slice (gl.map fun q => ⟨q, 0, none⟩) k cl) := Q2.touch.cell (cell_of_heap HF5.out.blk 1) hnl
        have f1 : w4.frozen? ⟨w.heap.size, 1, none⟩ = false := frozen_of_heap (Q2.touch.heapAt HF5.out.blk hnl) 1
        have HQM : Hid (∀ q, some g3 = some q → w.heap.size ≤ q) := fun q e => by
          cases e
          rcases Q2.lies with e | e
          · exact HG.out.2 _ e
          · have := HB5.out.size; omega
        have HB6 := hid (HB5.out.trans (HD.out.2.below HB5.out.size (fun i _ e => by
          rcases e with e | e
          · omega
          · exact HG.out.2 i e)))
        clear Q2 n1 fz1 hnl
        go_wp2
        go_roundw
        case rel => exact ⟨k + 1, some g2, c2, some g3, c3, by omega, by go_num, HD.out.1, HB6.out, HQL.out, HQM.out⟩
        case measure => simp [intOf]; omega
      · go_simp
        refine hK _ _ ?_
        clear hK K
        refine wpAny_ready (rs := [4, 6]) (by kernel_rfl) (by simp) ?_
        refine AllReady.cons rfl (fun K hK => ?_) (AllReady.cons rfl (fun K hK => ?_) AllReady.nil)
        · go_simp
          refine hK _ _ ?_
          clear hK K
          refine wpAny_ready (rs := [6]) (by kernel_rfl) (by simp) ?_
          refine AllReady.cons rfl (fun K hK => ?_) AllReady.nil
          go_simp
          refine hK _ _ ?_
          clear hK K
          refine wpAny_ready (rs := [7]) (by kernel_rfl) (by simp) ?_
          refine AllReady.cons rfl (fun K hK => ?_) AllReady.nil
          refine step_app _ rfl (.tmp 36) (.tmp 38) 48 rfl 63 ic (.agg #[.int .i64 0, .int .i64 0, .int .i64 0]) 3 24 Tryz.underlying48 hic hic0 hic1 hic2 rfl gc k cc (by rfl) HF3.out.cow ⟨Y.heap.size, 0, none⟩ 1 1 [.int .i64 3, .int .i64 k, .int .i64 5] rfl rfl ?c1 ?c2 (by omega) (by omega) (by omega) ?_
          case c1 => exact World.news_of_block (heap_alloc_new Y _)
          case c2 => intro u hu; simp at hu; rcases hu with rfl | rfl | rfl <;> rfl
          intro g2 c2 w3 Q
          have HC := hid (HF3.out.conf Q)
          have m0 : w3.cell? ⟨w.heap.size, 0, none⟩ = some (.slice (gc.map fun q => ⟨q, 0, none⟩) k cc) := Q.touch.cell n0a HGN.out
          have f0 : w3.frozen? ⟨w.heap.size, 0, none⟩ = false := frozen_of_heap (Q.touch.heapAt HF3.out.blk HGN.out) 0
          have HQL : Hid (∀ q, some g2 = some q → w.heap.size ≤ q) := fun q e => by
            cases e
            rcases Q.lies with e | e
            · exact HG.out.1 _ e
            · have := HB3.out.size; omega
          clear Q n0 n0a q0 q1 q2
          refine hK _ _ ?_
          clear hK K
          simp only [Act.put, List.setIfInBounds_toArray, List.set_cons_zero, List.set_cons_succ]
          refine wpAny_take (i := 8) (v := ?rv7) rfl (by kernel_rfl) (by kernel_rfl) (by kernel_rfl) (fun _ _ _ h => h) (Or.inl ⟨by rfl, ?ry7⟩) ?rr7
          case ry7 => (intro w; go_simp; try with_reducible rfl)
          try simp only [List.getElem_toArray, List.getElem_cons_zero, List.getElem_cons_succ, Act.put, List.setIfInBounds_toArray, List.set_cons_zero, List.set_cons_succ]
          refine wpAny_take (i := 9) (v := ?rv8) rfl (by kernel_rfl) (by kernel_rfl) (by kernel_rfl) (fun _ _ _ h => h) (Or.inl ⟨by rfl, ?ry8⟩) ?rr8
          case ry8 => (intro w; go_simp; try with_reducible rfl)
          try simp only [List.getElem_toArray, List.getElem_cons_zero, List.getElem_cons_succ, Act.put, List.setIfInBounds_toArray, List.set_cons_zero, List.set_cons_succ]
          refine wpAny_ready (rs := [10]) (by kernel_rfl) (by simp) ?_
          refine AllReady.cons rfl (fun K hK => ?_) AllReady.nil
          go_simp
          refine hK _ _ ?_
          clear hK K
          refine wpAny_done (by kernel_rfl) ?_ _
          have HV4 := hid (HV3.out.touch HC.out.2 (fun i ei e2 => by
            have := PV.fresh_own ei
            subst this
            rcases e2 with e2 | e2
            · have := HNB.out; omega
            · exact HF3.out.cow.neT HV3.out.blk (by decide) e2))
          have HB4 := hid (HB3.out.trans (HC.out.2.below HB3.out.size (fun i _ e => by
            rcases e with e | e
            · omega
            · exact HG.out.1 i e)))
          have HF4 := hid HC.out.1
          clear HC HF3 HV3 HB3 m0 f0
          generalize w3.setCell ⟨w.heap.size, 0, none⟩ (.slice (some ⟨g2, 0, none⟩) (k + 1) c2) = Z at *
          have n1 : Z.cell? ⟨w.heap.size, 1, none⟩ = some (.slice (gl.map fun q => ⟨q, 0, none⟩) k cl) := cell_of_heap HF4.out.blk 1
          have fz1 : Z.frozen? ⟨w.heap.size, 1, none⟩ = false := frozen_of_heap HF4.out.blk 1
          have HF5 := hid (HF4.out.below ((Below.refl _ Z).alloc (Nat.le_refl _) (.cells #[.pointer (some ⟨B, 0, none⟩)] 47)))
          have HV5 := hid (HV4.out.below ((Below.refl _ Z).alloc (Nat.le_refl _) (.cells #[.pointer (some ⟨B, 0, none⟩)] 47)))
          have HB5 := hid (HB4.out.alloc HB4.out.size (.cells #[.pointer (some ⟨B, 0, none⟩)] 47))
          go_wp2_with (at_builtin; refine wpList_app _ rfl (.tmp 46) (.tmp 48) 49 rfl 47 ik (.pointer none) 1 8 Tryz.underlying49 hik hik0 hik1 hik2 rfl gl k cl (by rfl) HF5.out.low ⟨Z.heap.size, 0, none⟩ 1 1 [.pointer (some ⟨B, 0, none⟩)] rfl rfl ?c3 ?c4 (by omega) (by omega) (by omega) ?_)
          case c3 => exact World.news_of_block (heap_alloc_new Z _)
          case c4 => intro u hu; simp at hu; subst hu; rfl
          intro g3 c3 w4 Q2
          have HD := hid (HF5.out.keeper HV5.out HNB.out Q2)
          have hnl : gl ≠ some w.heap.size := HF5.out.low.neT HF5.out.blk (by decide)
          have m1 : w4.cell? ⟨w.heap.size, 1, none⟩ = some (.slice (gl.map fun q => ⟨q, 0, none⟩) k cl) := Q2.touch.cell (cell_of_heap HF5.out.blk 1) hnl
          have f1 : w4.frozen? ⟨w.heap.size, 1, none⟩ = false := frozen_of_heap (Q2.touch.heapAt HF5.out.blk hnl) 1
          have HQM : Hid (∀ q, some g3 = some q → w.heap.size ≤ q) := fun q e => by
            cases e
            rcases Q2.lies with e | e
            · exact HG.out.2 _ e
            · have := HB5.out.size; omega
          have HB6 := hid (HB5.out.trans (HD.out.2.below HB5.out.size (fun i _ e => by
            rcases e with e | e
            · omega
            · exact HG.out.2 i e)))
          clear Q2 n1 fz1 hnl
          go_wp2
          go_roundw
          case rel => exact ⟨k + 1, some g2, c2, some g3, c3, by omega, by go_num, HD.out.1, HB6.out, HQL.out, HQM.out⟩
          case measure => simp [intOf]; omega
        · go_simp
          refine hK _ _ ?_
          clear hK K
          refine wpAny_ready (rs := [4]) (by kernel_rfl) (by simp) ?_
          refine AllReady.cons rfl (fun K hK => ?_) AllReady.nil
          go_simp
          refine hK _ _ ?_
          clear hK K
          refine wpAny_ready (rs := [7]) (by kernel_rfl) (by simp) ?_
          refine AllReady.cons rfl (fun K hK => ?_) AllReady.nil
          refine step_app _ rfl (.tmp 36) (.tmp 38) 48 rfl 63 ic (.agg #[.int .i64 0, .int .i64 0, .int .i64 0]) 3 24 Tryz.underlying48 hic hic0 hic1 hic2 rfl gc k cc (by rfl) HF3.out.cow ⟨Y.heap.size, 0, none⟩ 1 1 [.int .i64 3, .int .i64 k, .int .i64 5] rfl rfl ?c1 ?c2 (by omega) (by omega) (by omega) ?_
          case c1 => exact World.news_of_block (heap_alloc_new Y _)
          case c2 => intro u hu; simp at hu; rcases hu with rfl | rfl | rfl <;> rfl
          intro g2 c2 w3 Q
          have HC := hid (HF3.out.conf Q)
          have m0 : w3.cell? ⟨w.heap.size, 0, none⟩ = some (.slice (gc.map fun q => ⟨q, 0, none⟩) k cc) := Q.touch.cell n0a HGN.out
          have f0 : w3.frozen? ⟨w.heap.size, 0, none⟩ = false := frozen_of_heap (Q.touch.heapAt HF3.out.blk HGN.out) 0
          have HQL : Hid (∀ q, some g2 = some q → w.heap.size ≤ q) := fun q e => by
            cases e
            rcases Q.lies with e | e
            · exact HG.out.1 _ e
            · have := HB3.out.size; omega
          clear Q n0 n0a q0 q1 q2
          refine hK _ _ ?_
          clear hK K
          simp only [Act.put, List.setIfInBounds_toArray, List.set_cons_zero, List.set_cons_succ]
          refine wpAny_take (i := 8) (v := ?rv9) rfl (by kernel_rfl) (by kernel_rfl) (by kernel_rfl) (fun _ _ _ h => h) (Or.inl ⟨by rfl, ?ry9⟩) ?rr9
          case ry9 => (intro w; go_simp; try with_reducible rfl)
          try simp only [List.getElem_toArray, List.getElem_cons_zero, List.getElem_cons_succ, Act.put, List.setIfInBounds_toArray, List.set_cons_zero, List.set_cons_succ]
          refine wpAny_take (i := 9) (v := ?rv10) rfl (by kernel_rfl) (by kernel_rfl) (by kernel_rfl) (fun _ _ _ h => h) (Or.inl ⟨by rfl, ?ry10⟩) ?rr10
          case ry10 => (intro w; go_simp; try with_reducible rfl)
          try simp only [List.getElem_toArray, List.getElem_cons_zero, List.getElem_cons_succ, Act.put, List.setIfInBounds_toArray, List.set_cons_zero, List.set_cons_succ]
          refine wpAny_ready (rs := [10]) (by kernel_rfl) (by simp) ?_
          refine AllReady.cons rfl (fun K hK => ?_) AllReady.nil
          go_simp
          refine hK _ _ ?_
          clear hK K
          refine wpAny_done (by kernel_rfl) ?_ _
          have HV4 := hid (HV3.out.touch HC.out.2 (fun i ei e2 => by
            have := PV.fresh_own ei
            subst this
            rcases e2 with e2 | e2
            · have := HNB.out; omega
            · exact HF3.out.cow.neT HV3.out.blk (by decide) e2))
          have HB4 := hid (HB3.out.trans (HC.out.2.below HB3.out.size (fun i _ e => by
            rcases e with e | e
            · omega
            · exact HG.out.1 i e)))
          have HF4 := hid HC.out.1
          clear HC HF3 HV3 HB3 m0 f0
          generalize w3.setCell ⟨w.heap.size, 0, none⟩ (.slice (some ⟨g2, 0, none⟩) (k + 1) c2) = Z at *
          have n1 : Z.cell? ⟨w.heap.size, 1, none⟩ = some (.slice (gl.map fun q => ⟨q, 0, none⟩) k cl) := cell_of_heap HF4.out.blk 1
          have fz1 : Z.frozen? ⟨w.heap.size, 1, none⟩ = false := frozen_of_heap HF4.out.blk 1
          have HF5 := hid (HF4.out.below ((Below.refl _ Z).alloc (Nat.le_refl _) (.cells #[.pointer (some ⟨B, 0, none⟩)] 47)))
          have HV5 := hid (HV4.out.below ((Below.refl _ Z).alloc (Nat.le_refl _) (.cells #[.pointer (some ⟨B, 0, none⟩)] 47)))
          have HB5 := hid (HB4.out.alloc HB4.out.size (.cells #[.pointer (some ⟨B, 0, none⟩)] 47))
          go_wp2_with (at_builtin; refine wpList_app _ rfl (.tmp 46) (.tmp 48) 49 rfl 47 ik (.pointer none) 1 8 Tryz.underlying49 hik hik0 hik1 hik2 rfl gl k cl (by rfl) HF5.out.low ⟨Z.heap.size, 0, none⟩ 1 1 [.pointer (some ⟨B, 0, none⟩)] rfl rfl ?c3 ?c4 (by omega) (by omega) (by omega) ?_)
          case c3 => exact World.news_of_block (heap_alloc_new Z _)
          case c4 => intro u hu; simp at hu; subst hu; rfl
          intro g3 c3 w4 Q2
          have HD := hid (HF5.out.keeper HV5.out HNB.out Q2)
          have hnl : gl ≠ some w.heap.size := HF5.out.low.neT HF5.out.blk (by decide)
          have m1 : w4.cell? ⟨w.heap.size, 1, none⟩ = some (.slice (gl.map fun q => ⟨q, 0, none⟩) k cl) := Q2.touch.cell (cell_of_heap HF5.out.blk 1) hnl
          have f1 : w4.frozen? ⟨w.heap.size, 1, none⟩ = false := frozen_of_heap (Q2.touch.heapAt HF5.out.blk hnl) 1
          have HQM : Hid (∀ q, some g3 = some q → w.heap.size ≤ q) := fun q e => by
            cases e
            rcases Q2.lies with e | e
            · exact HG.out.2 _ e
            · have := HB5.out.size; omega
          have HB6 := hid (HB5.out.trans (HD.out.2.below HB5.out.size (fun i _ e => by
            rcases e with e | e
            · omega
            · exact HG.out.2 i e)))
          clear Q2 n1 fz1 hnl
          go_wp2
          go_roundw
          case rel => exact ⟨k + 1, some g2, c2, some g3, c3, by omega, by go_num, HD.out.1, HB6.out, HQL.out, HQM.out⟩
          case measure => simp [intOf]; omega
    · have hk3 : k = 3 := by omega
      subst hk3
      go_wp2
      go_ret
      exact ⟨gc, cc, gl, cl, rfl, HF.out, HB.out⟩

end Go.Proofs.YtolififimldmlaaGreat
