import Derived.Test.YtolififimldmlaaGreatPart40
import Derived.Test.YtolififimldmlaaGreatPart41
import Derived.Test.YtolififimldmlaaGreatPart01
import Derived.Test.YtolififimldmlaaGreatRows
import Derived.ProofKit
import Derived.Deep.Slices
set_option linter.unusedVariables false
set_option linter.unusedSimpArgs false
namespace Go.Proofs.YtolififimldmlaaGreat
open Go.RowKit
attribute [local go_sem ↓] Go.wp_at_zero Go.wp_at_succ

theorem take_min (l : List UInt8) (keep : Int) : ∃ kk : Nat, min (max keep 0) (l.length : Int) = kk ∧ l.take kk = l.take keep.toNat := by
  refine ⟨(min (max keep 0) (l.length : Int)).toNat, by omega, ?_⟩
  rcases Int.lt_or_le (l.length : Int) keep with h | h
  · rw [show (min (max keep 0) (l.length : Int)).toNat = l.length from by omega, List.take_of_length_le (Nat.le_refl _), List.take_of_length_le (by omega)]
  · rw [show (min (max keep 0) (l.length : Int)).toNat = keep.toNat from by omega]

set_option maxRecDepth 100000 in
set_option maxHeartbeats 4000000 in
theorem disk_go (K : Nat) (kp me pa : Int) (d : List UInt8) (m : Mm) (arm : Int) (lost : List UInt8) (ag : Nat) (hs : Nat → Int) (gd : Option Nat) (cd : Nat) (gl : Option Nat) (cl : Nat) (gf : Option Nat) (cf : Nat) (w : World) (h : PK w K kp me pa d m arm lost ag hs gd cd gl cl gf cf) (hn : d.length + lost.length ≤ 9900000) (keep : Int) :
    Calls Tryz.prog 28 #[.pointer (some ⟨K, 0, none⟩), .int .i64 keep] w fun e w' => ∃ g c, e = .returned (sl g (d ++ lost.take keep.toNat).length c) ∧ OwnBytes w w' g c (d ++ lost.take keep.toNat) ∧ Below w.heap.size w w' := by
  obtain ⟨kk, hk, hkt⟩ := take_min lost keep
  have HB := hid (bytes_at K kp me pa d m arm lost ag hs gd cd gl cl gf cf w h hn keep kk hk)
  rw [hkt] at HB
  clear h hk hkt
  generalize d ++ lost.take keep.toNat = ll at *
  go_enter Tryz.func28, Tryz.ntmps28
  go_wp2_with fail
  refine HB.out.mono ?_
  rintro e w' ⟨b, c, rfl, ho, hb⟩
  unfold sl
  go_wp2
  go_ret
  exact ⟨b, c, rfl, ho, hb⟩

theorem diskSaid_ : DiskSaid KIs_ := fun w K F s keep h hok => by
  obtain ⟨gd, cd, gl, cl, gf, cf, h1, _⟩ := h
  exact disk_go K _ _ _ _ _ _ _ _ _ gd cd gl cl gf cf w h1 hok.1 keep

set_option maxRecDepth 100000 in
set_option maxHeartbeats 8000000 in
theorem openSaid_ : OpenSaid KIs_ := fun kp me pa s g0 cap w hb hn hcap => by
  by_cases hc : ConfOk kp me pa
  · have RC : Hid (∀ z, Calls Tryz.prog 45 #[.agg #[.int .i64 kp, .int .i64 me, .int .i64 pa]] z fun e w' => e = .returned (.bool true) ∧ Below z.heap.size z w') := fun z => rightConfig_yes kp me pa z hc
    have OD : Hid (∀ z, Below w.heap.size w z → Calls Tryz.prog 46 #[.slice (some ⟨g0, 0, none⟩) s.length cap] z (OpenedD z s)) := fun z hz => openD_go g0 0 s.length cap s z (hb.below hz) rfl hn hcap
    have HC := hid hc
    clear hb hc
    go_enter Tryz.func25, Tryz.ntmps25
    go_wp2_with fail
    refine (RC.out _).mono ?_
    rintro e X1 ⟨rfl, hb1⟩
    rw [World.size_alloc] at hb1
    have HX1 : Hid (Below w.heap.size w X1) := ((Below.refl _ w).alloc (Nat.le_refl _) _).trans (hb1.mono (by omega))
    have HCB : Hid (MBox w.heap.size 63 (.int .i64 kp) (.int .i64 me) (.int .i64 pa) X1) := by
      show _ = _
      rw [hb1.block _ (by omega)]; exact heap_alloc_new w _
    clear hb1
    obtain ⟨q0, q1, q2, fq⟩ := mbox_cells HCB.out
    have Q0 := hid q0
    have Q1 := hid q1
    have Q2 := hid q2
    clear fq q0 q1 q2
    go_wp2
    have hS0 : (fun z : World => Below X1.heap.size X1 z ∧ z.cell? ⟨w.heap.size, 0, none⟩ = some (.int .i64 kp) ∧ z.cell? ⟨w.heap.size, 1, none⟩ = some (.int .i64 me) ∧ z.cell? ⟨w.heap.size, 2, none⟩ = some (.int .i64 pa)) X1.drew := ⟨(Below.refl _ _).drew, Q0.out, Q1.out, Q2.out⟩
    refine wp_region_held_drew (S := fun z : World => Below X1.heap.size X1 z ∧ z.cell? ⟨w.heap.size, 0, none⟩ = some (.int .i64 kp) ∧ z.cell? ⟨w.heap.size, 1, none⟩ = some (.int .i64 me) ∧ z.cell? ⟨w.heap.size, 2, none⟩ = some (.int .i64 pa)) (by kernel_rfl) hS0 (fun hS => ?_)
    clear hS0
    refine wpAnyH_take (i := 1) (v := ?rv1) rfl (by kernel_rfl) (by kernel_rfl) (by kernel_rfl) (fun _ _ _ h => h) (Or.inl ⟨by rfl, ?ry1⟩) hS ?rr1
    case ry1 => (intro w hw; clear hw; go_simp; try with_reducible rfl)
    try simp only [List.getElem_toArray, List.getElem_cons_zero, List.getElem_cons_succ, Act.put, List.setIfInBounds_toArray, List.set_cons_zero, List.set_cons_succ]
    refine wpAnyH_take (i := 0) (v := ?rv5) rfl (by kernel_rfl) (by kernel_rfl) (by kernel_rfl) (fun _ _ _ h => h) (Or.inl ⟨by rfl, ?ry5⟩) hS ?rr5
    case ry5 => (intro w hw; obtain ⟨_, s0, s1, s2⟩ := hw; go_simp; try with_reducible rfl)
    try simp only [List.getElem_toArray, List.getElem_cons_zero, List.getElem_cons_succ, Act.put, List.setIfInBounds_toArray, List.set_cons_zero, List.set_cons_succ]
    refine wpAnyH_ready (rs := [2]) (by kernel_rfl) (by simp) ?_
    refine AllReadyH.cons rfl (fun K hK => ?_) AllReadyH.nil
    go_simp
    refine (OD.out _ (HX1.out.trans (hS.1.mono HX1.out.size))).mono ?_
    rintro e X2 ⟨gd, cd, gl, cl, rfl, hd1, hd2, hd3, hol, hbf⟩
    have hb12 := hS.1.trans (hbf.mono hS.1.size)
    have H12 := hid hb12
    have HD1 := hid hd1
    have HD2 := hid hd2
    have HD3 : Hid (∀ k, gd = some k → w.heap.size ≤ k) := fun k e => Nat.le_trans HX1.out.size (Nat.le_trans hS.1.size (hd3 k e))
    have HOL := hid (hol.base (u := w) (Nat.le_trans HX1.out.size hS.1.size))
    have HX2 := hid (HX1.out.trans (hb12.mono HX1.out.size))
    clear hbf hd1 hd2 hd3 hol
    refine hK.out _ _ ⟨hb12, (Below.cell hb12 (World.block_lt_of_cell? _ _ Q0.out)).trans Q0.out, (Below.cell hb12 (World.block_lt_of_cell? _ _ Q1.out)).trans Q1.out, (Below.cell hb12 (World.block_lt_of_cell? _ _ Q2.out)).trans Q2.out⟩ (fun hS => ?_)
    clear hK K hb12
    unfold sl
    refine wpAnyH_take (i := 3) (v := ?rv2) rfl (by kernel_rfl) (by kernel_rfl) (by kernel_rfl) (fun _ _ _ h => h) (Or.inl ⟨by rfl, ?ry2⟩) hS ?rr2
    case ry2 => (intro w hw; clear hw; go_simp; try with_reducible rfl)
    try simp only [List.getElem_toArray, List.getElem_cons_zero, List.getElem_cons_succ, Act.put, List.setIfInBounds_toArray, List.set_cons_zero, List.set_cons_succ]
    refine wpAnyH_ready (rs := [4]) (by kernel_rfl) (by simp) ?_
    refine AllReadyH.cons rfl (fun K hK => ?_) AllReadyH.nil
    go_simp
    refine hK.out _ _ ⟨H12.out.alloc H12.out.size _, cell_alloc_keep hS.2.1 _, cell_alloc_keep hS.2.2.1 _, cell_alloc_keep hS.2.2.2 _⟩ (fun hS => ?_)
    clear hK K
    refine wpAnyH_take (i := 5) (v := ?rv3) rfl (by kernel_rfl) (by kernel_rfl) (by kernel_rfl) (fun _ _ _ h => h) (Or.inl ⟨by rfl, ?ry3⟩) hS ?rr3
    case ry3 => (intro w hw; clear hw; go_simp; try with_reducible rfl)
    try simp only [List.getElem_toArray, List.getElem_cons_zero, List.getElem_cons_succ, Act.put, List.setIfInBounds_toArray, List.set_cons_zero, List.set_cons_succ]
    refine wpAnyH_take (i := 6) (v := ?rv4) rfl (by kernel_rfl) (by kernel_rfl) (by kernel_rfl) (fun _ _ _ h => h) (Or.inl ⟨by rfl, ?ry4⟩) hS ?rr4
    case ry4 => (intro w hw; clear hw; go_simp; try with_reducible rfl)
    try simp only [List.getElem_toArray, List.getElem_cons_zero, List.getElem_cons_succ, Act.put, List.setIfInBounds_toArray, List.set_cons_zero, List.set_cons_succ]
    refine wpAnyH_done (by kernel_rfl) ?_ _
    clear hS
    have hTL : (s.take (readD s).2).length = (readD s).2 := by rw [List.length_take]; have := readD_le s; omega
    have HXA : Hid (Below w.heap.size w (X2.alloc (.cells (progCells kp me pa gd (readD s).2 cd (readD s).1 gl cl 0 none 0 0 0 (fun _ => 0)) 103))) := HX2.out.alloc HX2.out.size _
    have HFIN : Hid (Below w.heap.size w (X2.alloc (.cells (progCells kp me pa gd (readD s).2 cd (readD s).1 gl cl 0 none 0 0 0 (fun _ => 0)) 103)) ∧ KIs_ (X2.alloc (.cells (progCells kp me pa gd (readD s).2 cd (readD s).1 gl cl 0 none 0 0 0 (fun _ => 0)) 103)) X2.heap.size (fun k => k = X2.heap.size ∨ gd = some k ∨ gl = some k ∨ (none : Option Nat) = some k) (LK.opened kp me pa (s.take (readD s).2) (readD s).1) ∧ ∀ k, (k = X2.heap.size ∨ gd = some k ∨ gl = some k ∨ (none : Option Nat) = some k) → w.heap.size ≤ k ∧ k < (X2.alloc (.cells (progCells kp me pa gd (readD s).2 cd (readD s).1 gl cl 0 none 0 0 0 (fun _ => 0)) 103)).heap.size) := by
      refine ⟨HXA.out, ⟨gd, cd, gl, cl, none, 0, ?_, fun k => Iff.rfl⟩, fun k e => ?_⟩
      · have hdd : (LK.opened kp me pa (s.take (readD s).2) (readD s).1).dead = false := rfl
        simp only [hdd, LK.mv, LK.av, Bool.false_eq_true, if_false]
        refine ⟨?_, HD1.out.touch ((Touch.refl (fun _ => False) X2).alloc _) (fun _ _ e => e), ?_, HOL.out.at_.alloc _, HOL.out.own.alloc _, fun j hj => absurd hj (by simp [LK.opened]), .inl ⟨rfl, rfl, rfl⟩, ⟨fun e => ?_, fun e => ?_, fun e => (by cases e)⟩, ⟨fun k e e2 => ?_, fun k _ e => (by cases e), fun k _ e => (by cases e)⟩⟩
        · show _ = some (Obj.cells (progCells kp me pa gd (s.take (readD s).2).length cd (readD s).1 gl cl 0 none 0 0 0 (fun _ => 0)) _ _)
          rw [hTL]; exact heap_alloc_new X2 _
        · show OwnRow _ _ _ _ (s.take (readD s).2).length _
          rw [hTL]; exact HD2.out.alloc _
        · have := HD2.out.lt e; omega
        · have := HOL.out.own.lt e; omega
        · rcases HD2.out with ⟨h, _⟩ | ⟨g1, cur1, h, hh, _⟩
          · rw [h] at e; cases e
          · rcases HOL.out.own with ⟨h', _⟩ | ⟨g2, cur2, h', hh2, _⟩
            · rw [h'] at e2; cases e2
            · rw [e] at h; rw [e2] at h'; cases h; cases h'
              rw [hh] at hh2
              simp at hh2
      · have hsz := World.size_alloc X2 (.cells (progCells kp me pa gd (readD s).2 cd (readD s).1 gl cl 0 none 0 0 0 (fun _ => 0)) 103)
        have hw2 := HX2.out.size
        rcases e with e | e | e | e
        · omega
        · have := HD2.out.lt e; have := HD3.out k e; omega
        · have := HOL.out.own.lt e; have := HOL.out.new k e; omega
        · cases e
    unfold progCells sl at HFIN
    clear HXA HOL HD1 HD2 HD3 hTL
    go_wp2
    go_ret2
    exact ⟨HFIN.out.1, .inr ⟨HC.out, X2.heap.size, rfl, _, HFIN.out.2.1, HFIN.out.2.2⟩⟩
  · have RC : Hid (∀ z, Calls Tryz.prog 45 #[.agg #[.int .i64 kp, .int .i64 me, .int .i64 pa]] z fun e w' => e = .returned (.bool false) ∧ Below z.heap.size z w') := fun z => rightConfig_no kp me pa z hc
    have HC := hid hc
    clear hb hc
    go_enter Tryz.func25, Tryz.ntmps25
    go_wp2_with fail
    refine (RC.out _).mono ?_
    rintro e X1 ⟨rfl, hb1⟩
    rw [World.size_alloc] at hb1
    have HX1 : Hid (Below w.heap.size w X1) := ((Below.refl _ w).alloc (Nat.le_refl _) _).trans (hb1.mono (by omega))
    clear hb1
    go_wp2
    go_ret2
    exact ⟨HX1.out, .inl ⟨HC.out, rfl⟩⟩




end Go.Proofs.YtolififimldmlaaGreat

set_option linter.unusedVariables false
set_option linter.unusedSimpArgs false
namespace Go.Proofs.YtolififimldmlaaGreat
open Go.RowKit Go.Deep

/-! What the reading of a script says of memory. -/
section
variable {X : Type} {enc : TypeId × Value → X} {w : World}

theorem bulk_pos {H : Type} (d : DataW H) : 1 ≤ Rows.uptoBulk d := by
  cases d with
  | lit l => cases l <;> simp [Rows.uptoBulk]
  | nil => simp [Rows.uptoBulk]
  | ptr d => simp [Rows.uptoBulk]
  | slice elems spare => simp [Rows.uptoBulk]
  | agg parts => simp [Rows.uptoBulk]
  | iface t d => simp [Rows.uptoBulk]
  | map entries => simp [Rows.uptoBulk]
  | held h => simp [Rows.uptoBulk]
theorem bulk_part {H : Type} {d : DataW H} {l : List (DataW H)} (h : d ∈ l) : Rows.uptoBulk d ≤ Rows.uptoBulkAll l := by
  induction l with
  | nil => cases h
  | cons x r ih =>
    simp only [Rows.uptoBulkAll]
    cases List.mem_cons.1 h with
    | inl e => subst e; omega
    | inr e => have := ih e; omega
theorem bulk_len {H : Type} (l : List (DataW H)) : l.length ≤ Rows.uptoBulkAll l := by
  induction l with
  | nil => simp [Rows.uptoBulkAll]
  | cons x r ih => have := bulk_pos x; simp only [Rows.uptoBulkAll, List.length_cons]; omega
theorem bulk_slice {H : Type} (l r : List (DataW H)) : l.length ≤ Rows.uptoBulk (.slice l r) := by
  have := bulk_len l
  simp only [Rows.uptoBulk]; omega
theorem bulk_slice_part {H : Type} {d : DataW H} {l r : List (DataW H)} (h : d ∈ l) : Rows.uptoBulk d ≤ Rows.uptoBulk (.slice l r) := by
  have := bulk_part h
  simp only [Rows.uptoBulk]; omega
theorem bulk_agg_part {H : Type} {d : DataW H} {l : List (DataW H)} (h : d ∈ l) : Rows.uptoBulk d ≤ Rows.uptoBulk (.agg l) := by
  have := bulk_part h
  simp only [Rows.uptoBulk]; omega

theorem cellsLine : Tryz.prog.cellsOf 27 = 3 := by kernel_rfl
theorem cellsFrame : Tryz.prog.cellsOf 30 = 10 := by kernel_rfl
theorem cellsConfig : Tryz.prog.cellsOf 63 = 3 := by kernel_rfl
theorem cellsOp : Tryz.prog.cellsOf 76 = 17 := by kernel_rfl
theorem cellsInt : Tryz.prog.cellsOf 3 = 1 := by kernel_rfl
theorem cellsStr : Tryz.prog.cellsOf 9 = 1 := by kernel_rfl
theorem cellsSl : Tryz.prog.cellsOf 28 = 1 := by kernel_rfl

theorem addr_add0 (g o j : Nat) : (⟨g, o, none⟩ : Addr).add j = ⟨g, o + j, none⟩ := by unfold Addr.add; split <;> simp_all

theorem len1 {α : Type} {l : List α} (h : l.length = 1) : ∃ a, l = [a] := by
  match l, h with
  | [a], _ => exact ⟨a, rfl⟩
theorem len3 {α : Type} {l : List α} (h : l.length = 3) : ∃ a b c, l = [a, b, c] := by
  match l, h with
  | [a, b, c], _ => exact ⟨a, b, c, rfl⟩
theorem some_at {α : Type} {l : List α} {n : Nat} (h : l.length = n) (i : Nat) (hi : i < n) : ∃ y, l[i]? = some y := ⟨l[i], List.getElem?_eq_getElem (by omega)⟩

/-- A line's cells. -/
theorem line_open {fuel : Nat} {cs : List Value} {x : DataW X × List MemPlace} (h : DataW.trod enc Tryz.prog w 0 (fun _ => true) true fuel 27 cs = some x) : ∃ l : Ln, cs = l.cells := by
  obtain ⟨xs, n, _, _, hl, hx, hf⟩ := DataW.trod_struct Tryz.underlying27 h
  rw [cellsLine] at hl
  have hx3 : xs.length = 3 := hx
  have h0 : DataW.trod enc Tryz.prog w 0 (fun _ => true) true n 3 ((cs.drop 0).take (Tryz.prog.cellsOf 3)) = xs[0]? := hf 0 _ rfl
  have h1 : DataW.trod enc Tryz.prog w 0 (fun _ => true) true n 3 ((cs.drop 1).take (Tryz.prog.cellsOf 3)) = xs[1]? := hf 1 _ rfl
  have h2 : DataW.trod enc Tryz.prog w 0 (fun _ => true) true n 9 ((cs.drop 2).take (Tryz.prog.cellsOf 9)) = xs[2]? := hf 2 _ rfl
  clear hf hx h
  obtain ⟨y0, e0⟩ := some_at hx3 0 (by omega)
  obtain ⟨y1, e1⟩ := some_at hx3 1 (by omega)
  obtain ⟨y2, e2⟩ := some_at hx3 2 (by omega)
  rw [e0, cellsInt] at h0
  rw [e1, cellsInt] at h1
  rw [e2, cellsStr] at h2
  obtain ⟨a, b, c, rfl⟩ := len3 hl
  obtain ⟨c0, e3, _⟩ := DataW.trod_int Tryz.underlying3 h0
  obtain ⟨t0, e4, _⟩ := DataW.trod_int Tryz.underlying3 h1
  obtain ⟨s0, e5, _⟩ := DataW.trod_string Tryz.underlying9 h2
  cases e3; cases e4; cases e5
  exact ⟨⟨c0, t0, s0.data.toList⟩, rfl⟩

theorem addr_of_cell {a : Addr} {v : Value} (h : w.cell? (a.add 0) = some v) : a = ⟨a.block, a.off, none⟩ := by
  obtain ⟨b, o, s⟩ := a
  cases s with
  | none => rfl
  | some s =>
    have : w.cell? ((⟨b, o, some s⟩ : Addr).add 0) = none := by
      unfold World.cell? Addr.add
      split
      · simp
      · rfl
    rw [this] at h; cases h

/-- Lines in a slice. -/
theorem lines_open {fuel : Nat} {v : Value} {x : DataW X × List MemPlace} (h : DataW.trod enc Tryz.prog w 0 (fun _ => true) true fuel 28 [v] = some x) :
    ∃ (a : Option Addr) (c : Nat) (ls : List Ln), v = sla a ls.length c ∧ ls.length ≤ c ∧ LinesAt w a ls ∧ ls.length ≤ Rows.uptoBulk x.1 := by
  rcases open_slice Tryz.underlying28 h with ⟨e, rfl⟩ | ⟨a, len, cap, m, n, D, Pl, e, _, hlc, _, hm, rfl, hi⟩
  · cases e
    exact ⟨none, 0, [], rfl, Nat.le_refl _, fun j hj => absurd hj (by simp), by simp⟩
  · cases e
    simp only [if_true] at hm
    rw [cellsLine] at hi
    have hex : ∀ i, i < len → ∃ l : Ln, ∀ r, r < 3 → w.cell? (a.add (i * 3 + r)) = l.cells[r]? := fun i hil => by
      obtain ⟨cs, hc, ht⟩ := hi i (by omega)
      obtain ⟨l, rfl⟩ := line_open ht
      obtain ⟨_, _, hcell⟩ := World.cells?_some hc
      exact ⟨l, fun r hr => by rw [← add_add]; exact hcell r hr⟩
    have hin : Inhabited Ln := ⟨Ln.zero⟩
    obtain ⟨L, hL⟩ := choose_lt hex
    refine ⟨some a, cap, (List.range len).map L, by simp [sla], by simpa using hlc, fun j hj => ?_, ?_⟩
    · have hj' : j < len := by simpa using hj
      have q := hL 0 (by omega) 0 (by omega)
      have q0 := hL j hj' 0 (by omega)
      have q1 := hL j hj' 1 (by omega)
      have q2 := hL j hj' 2 (by omega)
      have ea := addr_of_cell (v := .int .i64 (L 0).c) q
      clear q
      generalize a.block = bb at ea
      generalize a.off = oo at ea
      subst ea
      rw [addr_add0] at q0 q1 q2
      refine ⟨bb, oo, rfl, ?_⟩
      simp only [List.getElem_map, List.getElem_range]
      exact ⟨q0, by rw [Nat.add_assoc]; exact q1, by rw [Nat.add_assoc]; exact q2⟩
    · have := bulk_slice ((List.range len).map D) ((List.range (m - len)).map fun j => D (len + j))
      simpa using this

end
end Go.Proofs.YtolififimldmlaaGreat
