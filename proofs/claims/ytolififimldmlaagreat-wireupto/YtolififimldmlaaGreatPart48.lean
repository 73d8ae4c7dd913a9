import Derived.Test.YtolififimldmlaaGreatPart01
import Derived.Test.YtolififimldmlaaGreatRows
import Derived.ProofKit
import Derived.Deep.Slices
import Derived.Test.YtolififimldmlaaGreatPart29
import Derived.Test.YtolififimldmlaaGreatPart47
import Derived.OpenShut
import Derived.JoinedCond
set_option linter.unusedVariables false
set_option linter.unusedSimpArgs false
namespace Go.Proofs.YtolififimldmlaaGreat
open Go.RowKit Go.Deep

/-! What the reading of a script says of memory. -/
section
variable {X : Type} {enc : TypeId × Value → X} {w : World}

theorem bulk_pos {H : Type} (d : DataW H) : 1 ≤ Rows.uptoBulk d := by
  cases d with
  | lit l => cases l <;> simp [Rows.uptoBulk]
  | nil => simp [Rows.uptoBulk]
  | ptr d => simp [Rows.uptoBulk]
  | slice elems spare => simp [Rows.uptoBulk]
  | agg parts => simp [Rows.uptoBulk]
  | iface t d => simp [Rows.uptoBulk]
  | map entries => simp [Rows.uptoBulk]
  | held h => simp [Rows.uptoBulk]
theorem bulk_part {H : Type} {d : DataW H} {l : List (DataW H)} (h : d ∈ l) : Rows.uptoBulk d ≤ Rows.uptoBulkAll l := by
  induction l with
  | nil => cases h
  | cons x r ih =>
    simp only [Rows.uptoBulkAll]
    cases List.mem_cons.1 h with
    | inl e => subst e; omega
    | inr e => have := ih e; omega
theorem bulk_len {H : Type} (l : List (DataW H)) : l.length ≤ Rows.uptoBulkAll l := by
  induction l with
  | nil => simp [Rows.uptoBulkAll]
  | cons x r ih => have := bulk_pos x; simp only [Rows.uptoBulkAll, List.length_cons]; omega
theorem bulk_slice {H : Type} (l r : List (DataW H)) : l.length ≤ Rows.uptoBulk (.slice l r) := by
  have := bulk_len l
  simp only [Rows.uptoBulk]; omega
theorem bulk_slice_part {H : Type} {d : DataW H} {l r : List (DataW H)} (h : d ∈ l) : Rows.uptoBulk d ≤ Rows.uptoBulk (.slice l r) := by
  have := bulk_part h
  simp only [Rows.uptoBulk]; omega
theorem bulk_agg_part {H : Type} {d : DataW H} {l : List (DataW H)} (h : d ∈ l) : Rows.uptoBulk d ≤ Rows.uptoBulk (.agg l) := by
  have := bulk_part h
  simp only [Rows.uptoBulk]; omega

theorem cellsLine : Tryz.prog.cellsOf 27 = 3 := by kernel_rfl
theorem cellsFrame : Tryz.prog.cellsOf 30 = 10 := by kernel_rfl
theorem cellsConfig : Tryz.prog.cellsOf 63 = 3 := by kernel_rfl
theorem cellsOp : Tryz.prog.cellsOf 76 = 17 := by kernel_rfl
theorem cellsInt : Tryz.prog.cellsOf 3 = 1 := by kernel_rfl
theorem cellsStr : Tryz.prog.cellsOf 9 = 1 := by kernel_rfl
theorem cellsSl : Tryz.prog.cellsOf 28 = 1 := by kernel_rfl

theorem addr_add0 (g o j : Nat) : (⟨g, o, none⟩ : Addr).add j = ⟨g, o + j, none⟩ := by unfold Addr.add; split <;> simp_all

theorem len1 {α : Type} {l : List α} (h : l.length = 1) : ∃ a, l = [a] := by
  match l, h with
  | [a], _ => exact ⟨a, rfl⟩
theorem len3 {α : Type} {l : List α} (h : l.length = 3) : ∃ a b c, l = [a, b, c] := by
  match l, h with
  | [a, b, c], _ => exact ⟨a, b, c, rfl⟩
theorem some_at {α : Type} {l : List α} {n : Nat} (h : l.length = n) (i : Nat) (hi : i < n) : ∃ y, l[i]? = some y := ⟨l[i], List.getElem?_eq_getElem (by omega)⟩

/-- A line's cells. -/
theorem line_open {fuel : Nat} {cs : List Value} {x : DataW X × List MemPlace} (h : DataW.trod enc Tryz.prog w 0 (fun _ => true) true fuel 27 cs = some x) : ∃ l : Ln, cs = l.cells := by
  obtain ⟨xs, n, _, _, hl, hx, hf⟩ := DataW.trod_struct Tryz.underlying27 h
  rw [cellsLine] at hl
  have hx3 : xs.length = 3 := hx
  have h0 : DataW.trod enc Tryz.prog w 0 (fun _ => true) true n 3 ((cs.drop 0).take (Tryz.prog.cellsOf 3)) = xs[0]? := hf 0 _ rfl
  have h1 : DataW.trod enc Tryz.prog w 0 (fun _ => true) true n 3 ((cs.drop 1).take (Tryz.prog.cellsOf 3)) = xs[1]? := hf 1 _ rfl
  have h2 : DataW.trod enc Tryz.prog w 0 (fun _ => true) true n 9 ((cs.drop 2).take (Tryz.prog.cellsOf 9)) = xs[2]? := hf 2 _ rfl
  clear hf hx h
  obtain ⟨y0, e0⟩ := some_at hx3 0 (by omega)
  obtain ⟨y1, e1⟩ := some_at hx3 1 (by omega)
  obtain ⟨y2, e2⟩ := some_at hx3 2 (by omega)
  rw [e0, cellsInt] at h0
  rw [e1, cellsInt] at h1
  rw [e2, cellsStr] at h2
  obtain ⟨a, b, c, rfl⟩ := len3 hl
  obtain ⟨c0, e3, _⟩ := DataW.trod_int Tryz.underlying3 h0
  obtain ⟨t0, e4, _⟩ := DataW.trod_int Tryz.underlying3 h1
  obtain ⟨s0, e5, _⟩ := DataW.trod_string Tryz.underlying9 h2
  cases e3; cases e4; cases e5
  exact ⟨⟨c0, t0, s0.data.toList⟩, rfl⟩

theorem addr_of_cell {a : Addr} {v : Value} (h : w.cell? (a.add 0) = some v) : a = ⟨a.block, a.off, none⟩ := by
  obtain ⟨b, o, s⟩ := a
  cases s with
  | none => rfl
  | some s =>
    have : w.cell? ((⟨b, o, some s⟩ : Addr).add 0) = none := by
      unfold World.cell? Addr.add
      split
      · simp
      · rfl
    rw [this] at h; cases h

/-- Lines in a slice. -/
theorem lines_open {fuel : Nat} {v : Value} {x : DataW X × List MemPlace} (h : DataW.trod enc Tryz.prog w 0 (fun _ => true) true fuel 28 [v] = some x) :
    ∃ (a : Option Addr) (c : Nat) (ls : List Ln), v = sla a ls.length c ∧ ls.length ≤ c ∧ LinesAt w a ls ∧ ls.length ≤ Rows.uptoBulk x.1 := by
  rcases open_slice Tryz.underlying28 h with ⟨e, rfl⟩ | ⟨a, len, cap, m, n, D, Pl, e, _, hlc, _, hm, rfl, hi⟩
  · cases e
    exact ⟨none, 0, [], rfl, Nat.le_refl _, fun j hj => absurd hj (by simp), by simp⟩
  · cases e
    simp only [if_true] at hm
    rw [cellsLine] at hi
    have hex : ∀ i, i < len → ∃ l : Ln, ∀ r, r < 3 → w.cell? (a.add (i * 3 + r)) = l.cells[r]? := fun i hil => by
      obtain ⟨cs, hc, ht⟩ := hi i (by omega)
      obtain ⟨l, rfl⟩ := line_open ht
      obtain ⟨_, _, hcell⟩ := World.cells?_some hc
      exact ⟨l, fun r hr => by rw [← add_add]; exact hcell r hr⟩
    have hin : Inhabited Ln := ⟨Ln.zero⟩
    obtain ⟨L, hL⟩ := choose_lt hex
    refine ⟨some a, cap, (List.range len).map L, by simp [sla], by simpa using hlc, fun j hj => ?_, ?_⟩
    · have hj' : j < len := by simpa using hj
      have q := hL 0 (by omega) 0 (by omega)
      have q0 := hL j hj' 0 (by omega)
      have q1 := hL j hj' 1 (by omega)
      have q2 := hL j hj' 2 (by omega)
      have ea := addr_of_cell (v := .int .i64 (L 0).c) q
      clear q
      generalize a.block = bb at ea
      generalize a.off = oo at ea
      subst ea
      rw [addr_add0] at q0 q1 q2
      refine ⟨bb, oo, rfl, ?_⟩
      simp only [List.getElem_map, List.getElem_range]
      exact ⟨q0, by rw [Nat.add_assoc]; exact q1, by rw [Nat.add_assoc]; exact q2⟩
    · have := bulk_slice ((List.range len).map D) ((List.range (m - len)).map fun j => D (len + j))
      simpa using this

end
end Go.Proofs.YtolififimldmlaaGreat

set_option linter.unusedVariables false
set_option linter.unusedSimpArgs false
namespace Go.Proofs.YtolififimldmlaaGreat
open Go.RowKit Go.Deep

section
variable {X : Type} {enc : TypeId × Value → X} {w : World}

theorem len10 {α : Type} {l : List α} (h : l.length = 10) : ∃ a0 a1 a2 a3 a4 a5 a6 a7 a8 a9, l = [a0, a1, a2, a3, a4, a5, a6, a7, a8, a9] := by
  match l, h with
  | [a0, a1, a2, a3, a4, a5, a6, a7, a8, a9], _ => exact ⟨a0, a1, a2, a3, a4, a5, a6, a7, a8, a9, rfl⟩
theorem len17 {α : Type} {l : List α} (h : l.length = 17) : ∃ a0 a1 a2 a3 a4 a5 a6 a7 a8 a9 b0 b1 b2 b3 b4 b5 b6, l = [a0, a1, a2, a3, a4, a5, a6, a7, a8, a9, b0, b1, b2, b3, b4, b5, b6] := by
  match l, h with
  | [a0, a1, a2, a3, a4, a5, a6, a7, a8, a9, b0, b1, b2, b3, b4, b5, b6], _ => exact ⟨a0, a1, a2, a3, a4, a5, a6, a7, a8, a9, b0, b1, b2, b3, b4, b5, b6, rfl⟩

/-- A frame's cells. -/
def Fr.cells (f : Fr) (a : Option Addr) (c : Nat) : List Value :=
  [.int .i64 f.kind, .int .i64 f.frm, .int .i64 f.view, .int .i64 f.place, .int .i64 f.agreed, .int .i64 f.last, .int .i64 f.line.c, .int .i64 f.line.t, .string ⟨f.line.s.toArray⟩, sla a f.lines.length c]

theorem frame_open {fuel : Nat} {cs : List Value} {x : DataW X × List MemPlace} (h : DataW.trod enc Tryz.prog w 0 (fun _ => true) true fuel 30 cs = some x) :
    ∃ (f : Fr) (a : Option Addr) (c : Nat), cs = f.cells a c ∧ f.lines.length ≤ c ∧ LinesAt w a f.lines ∧ f.lines.length ≤ Rows.uptoBulk x.1 := by
  obtain ⟨xs, n, _, ex, hl, hx, hf⟩ := DataW.trod_struct Tryz.underlying30 h
  rw [cellsFrame] at hl
  have hx8 : xs.length = 8 := hx
  have h0 : DataW.trod enc Tryz.prog w 0 (fun _ => true) true n 3 ((cs.drop 0).take (Tryz.prog.cellsOf 3)) = xs[0]? := hf 0 _ rfl
  have h1 : DataW.trod enc Tryz.prog w 0 (fun _ => true) true n 3 ((cs.drop 1).take (Tryz.prog.cellsOf 3)) = xs[1]? := hf 1 _ rfl
  have h2 : DataW.trod enc Tryz.prog w 0 (fun _ => true) true n 3 ((cs.drop 2).take (Tryz.prog.cellsOf 3)) = xs[2]? := hf 2 _ rfl
  have h3 : DataW.trod enc Tryz.prog w 0 (fun _ => true) true n 3 ((cs.drop 3).take (Tryz.prog.cellsOf 3)) = xs[3]? := hf 3 _ rfl
  have h4 : DataW.trod enc Tryz.prog w 0 (fun _ => true) true n 3 ((cs.drop 4).take (Tryz.prog.cellsOf 3)) = xs[4]? := hf 4 _ rfl
  have h5 : DataW.trod enc Tryz.prog w 0 (fun _ => true) true n 3 ((cs.drop 5).take (Tryz.prog.cellsOf 3)) = xs[5]? := hf 5 _ rfl
  have h6 : DataW.trod enc Tryz.prog w 0 (fun _ => true) true n 27 ((cs.drop 6).take (Tryz.prog.cellsOf 27)) = xs[6]? := hf 6 _ rfl
  have h7 : DataW.trod enc Tryz.prog w 0 (fun _ => true) true n 28 ((cs.drop 9).take (Tryz.prog.cellsOf 28)) = xs[7]? := hf 7 _ rfl
  clear hf hx h
  obtain ⟨y6, e6⟩ := some_at hx8 6 (by omega)
  obtain ⟨y7, e7⟩ := some_at hx8 7 (by omega)
  rw [e6, cellsLine] at h6
  rw [e7, cellsSl] at h7
  obtain ⟨y0, e0⟩ := some_at hx8 0 (by omega)
  rw [e0, cellsInt] at h0
  obtain ⟨y1, e1⟩ := some_at hx8 1 (by omega)
  rw [e1, cellsInt] at h1
  obtain ⟨y2, e2⟩ := some_at hx8 2 (by omega)
  rw [e2, cellsInt] at h2
  obtain ⟨y3, e3⟩ := some_at hx8 3 (by omega)
  rw [e3, cellsInt] at h3
  obtain ⟨y4, e4⟩ := some_at hx8 4 (by omega)
  rw [e4, cellsInt] at h4
  obtain ⟨y5, e5⟩ := some_at hx8 5 (by omega)
  rw [e5, cellsInt] at h5
  obtain ⟨a0, a1, a2, a3, a4, a5, a6, a7, a8, a9, rfl⟩ := len10 hl
  obtain ⟨n0, q0, _⟩ := DataW.trod_int Tryz.underlying3 h0
  obtain ⟨n1, q1, _⟩ := DataW.trod_int Tryz.underlying3 h1
  obtain ⟨n2, q2, _⟩ := DataW.trod_int Tryz.underlying3 h2
  obtain ⟨n3, q3, _⟩ := DataW.trod_int Tryz.underlying3 h3
  obtain ⟨n4, q4, _⟩ := DataW.trod_int Tryz.underlying3 h4
  obtain ⟨n5, q5, _⟩ := DataW.trod_int Tryz.underlying3 h5
  obtain ⟨l, el⟩ := line_open h6
  obtain ⟨a, c, ls, ev, hc, hla, hb⟩ := lines_open h7
  cases el
  subst ev
  refine ⟨⟨n0, n1, n2, n3, n4, n5, l, ls⟩, a, c, ?_, hc, hla, ?_⟩
  · simp only [Fr.cells]
    cases q0; cases q1; cases q2; cases q3; cases q4; cases q5
    rfl
  · have hm : y7.1 ∈ xs.map (·.1) := List.mem_map.2 ⟨y7, List.mem_of_getElem? e7, rfl⟩
    have := bulk_agg_part hm
    rw [ex]; dsimp only; omega

/-- A configuration's cells. -/
theorem config_open {fuel : Nat} {cs : List Value} {x : DataW X × List MemPlace} (h : DataW.trod enc Tryz.prog w 0 (fun _ => true) true fuel 63 cs = some x) : ∃ c1 c2 c3 : Int, cs = [.int .i64 c1, .int .i64 c2, .int .i64 c3] := by
  obtain ⟨xs, n, _, _, hl, hx, hf⟩ := DataW.trod_struct Tryz.underlying63 h
  rw [cellsConfig] at hl
  have hx3 : xs.length = 3 := hx
  have h0 : DataW.trod enc Tryz.prog w 0 (fun _ => true) true n 3 ((cs.drop 0).take (Tryz.prog.cellsOf 3)) = xs[0]? := hf 0 _ rfl
  have h1 : DataW.trod enc Tryz.prog w 0 (fun _ => true) true n 3 ((cs.drop 1).take (Tryz.prog.cellsOf 3)) = xs[1]? := hf 1 _ rfl
  have h2 : DataW.trod enc Tryz.prog w 0 (fun _ => true) true n 3 ((cs.drop 2).take (Tryz.prog.cellsOf 3)) = xs[2]? := hf 2 _ rfl
  clear hf hx h
  obtain ⟨y0, e0⟩ := some_at hx3 0 (by omega)
  obtain ⟨y1, e1⟩ := some_at hx3 1 (by omega)
  obtain ⟨y2, e2⟩ := some_at hx3 2 (by omega)
  rw [e0, cellsInt] at h0
  rw [e1, cellsInt] at h1
  rw [e2, cellsInt] at h2
  obtain ⟨a, b, c, rfl⟩ := len3 hl
  obtain ⟨c0, e3, _⟩ := DataW.trod_int Tryz.underlying3 h0
  obtain ⟨t0, e4, _⟩ := DataW.trod_int Tryz.underlying3 h1
  obtain ⟨s0, e5, _⟩ := DataW.trod_int Tryz.underlying3 h2
  cases e3; cases e4; cases e5
  exact ⟨_, _, _, rfl⟩

theorem int_wf {n : Int} (h : (Lit.int .i64 n).wf = true) : -9223372036854775808 ≤ n ∧ n ≤ 9223372036854775807 := by
  unfold Lit.wf at h
  rw [Bool.and_eq_true] at h
  have e1 : IntKind.i64.min = -9223372036854775808 := by decide
  have e2 : IntKind.i64.max = 9223372036854775807 := by decide
  have h1 := of_decide_eq_true h.1
  have h2 := of_decide_eq_true h.2
  omega

/-- A step's cells. -/
theorem op_open {fuel : Nat} {cs : List Value} {x : DataW X × List MemPlace} (h : DataW.trod enc Tryz.prog w 0 (fun _ => true) true fuel 76 cs = some x) :
    ∃ o : OpG, cs = o.cells.toList ∧ LinesAt w o.fa o.f.lines ∧ o.f.lines.length ≤ o.fc ∧ o.f.lines.length ≤ Rows.uptoBulk x.1 ∧ o.s.length ≤ Rows.uptoBulk x.1 ∧ o.ranged := by
  obtain ⟨xs, n, _, ex, hl, hx, hf⟩ := DataW.trod_struct Tryz.underlying76 h
  rw [cellsOp] at hl
  have hx6 : xs.length = 6 := hx
  have h0 : DataW.trod enc Tryz.prog w 0 (fun _ => true) true n 3 ((cs.drop 0).take (Tryz.prog.cellsOf 3)) = xs[0]? := hf 0 _ rfl
  have h1 : DataW.trod enc Tryz.prog w 0 (fun _ => true) true n 3 ((cs.drop 1).take (Tryz.prog.cellsOf 3)) = xs[1]? := hf 1 _ rfl
  have h2 : DataW.trod enc Tryz.prog w 0 (fun _ => true) true n 9 ((cs.drop 2).take (Tryz.prog.cellsOf 9)) = xs[2]? := hf 2 _ rfl
  have h3 : DataW.trod enc Tryz.prog w 0 (fun _ => true) true n 30 ((cs.drop 3).take (Tryz.prog.cellsOf 30)) = xs[3]? := hf 3 _ rfl
  have h4 : DataW.trod enc Tryz.prog w 0 (fun _ => true) true n 63 ((cs.drop 13).take (Tryz.prog.cellsOf 63)) = xs[4]? := hf 4 _ rfl
  have h5 : DataW.trod enc Tryz.prog w 0 (fun _ => true) true n 3 ((cs.drop 16).take (Tryz.prog.cellsOf 3)) = xs[5]? := hf 5 _ rfl
  clear hf hx h
  obtain ⟨y0, e0⟩ := some_at hx6 0 (by omega)
  obtain ⟨y1, e1⟩ := some_at hx6 1 (by omega)
  obtain ⟨y2, e2⟩ := some_at hx6 2 (by omega)
  obtain ⟨y3, e3⟩ := some_at hx6 3 (by omega)
  obtain ⟨y4, e4⟩ := some_at hx6 4 (by omega)
  obtain ⟨y5, e5⟩ := some_at hx6 5 (by omega)
  rw [e0, cellsInt] at h0
  rw [e1, cellsInt] at h1
  rw [e2, cellsStr] at h2
  rw [e3, cellsFrame] at h3
  rw [e4, cellsConfig] at h4
  rw [e5, cellsInt] at h5
  obtain ⟨a0, a1, a2, a3, a4, a5, a6, a7, a8, a9, b0, b1, b2, b3, b4, b5, b6, rfl⟩ := len17 hl
  obtain ⟨k0, q0, _⟩ := DataW.trod_int Tryz.underlying3 h0
  obtain ⟨k1, q1, _, wf1⟩ := DataW.trod_int Tryz.underlying3 h1
  obtain ⟨s0, q2, r2, _⟩ := DataW.trod_string Tryz.underlying9 h2
  obtain ⟨f, a, c, q3, hc, hla, hb⟩ := frame_open h3
  obtain ⟨c1, c2, c3, q4⟩ := config_open h4
  obtain ⟨k5, q5, _⟩ := DataW.trod_int Tryz.underlying3 h5
  have m2 : y2.1 ∈ xs.map (·.1) := List.mem_map.2 ⟨y2, List.mem_of_getElem? e2, rfl⟩
  have m3 : y3.1 ∈ xs.map (·.1) := List.mem_map.2 ⟨y3, List.mem_of_getElem? e3, rfl⟩
  have g2 := bulk_agg_part m2
  have g3 := bulk_agg_part m3
  refine ⟨⟨k0, k1, s0.data.toList, f, a, c, c1, c2, c3, k5⟩, ?_, hla, hc, ?_, ?_, int_wf wf1⟩
  · simp only [Fr.cells] at q3
    cases q0; cases q1; cases q2; cases q3; cases q4; cases q5
    rfl
  · rw [ex]; dsimp only; omega
  · rw [ex]; dsimp only
    rw [r2] at g2
    simp only [Rows.uptoBulk] at g2
    simp only [Rows.uptoBulk]
    omega

/-- A script. -/
theorem ops_open {fuel : Nat} {v : Value} {x : DataW X × List MemPlace} (h : DataW.trod enc Tryz.prog w 0 (fun _ => true) true fuel 22 [v] = some x) (hb : Rows.uptoBulk x.1 ≤ 1048576) :
    ∃ (a : Option Addr) (c : Nat) (ops : List OpG), v = sla a ops.length c ∧ OpsAt w a ops ∧ (∀ o ∈ ops, o.small ∧ o.ranged) ∧ ops.length ≤ 1048576 := by
  rcases open_slice Tryz.underlying22 h with ⟨e, rfl⟩ | ⟨a, len, cap, m, n, D, Pl, e, _, hlc, _, hm, rfl, hi⟩
  · cases e
    exact ⟨none, 0, [], rfl, fun j hj => absurd hj (by simp), fun o ho => (by cases ho), by simp⟩
  · cases e
    simp only [if_true] at hm
    rw [cellsOp] at hi
    have hex : ∀ i, i < len → ∃ o : OpG, (∀ r, r < 17 → w.cell? (a.add (i * 17 + r)) = o.cells[r]?) ∧ LinesAt w o.fa o.f.lines ∧ (o.small ∧ o.ranged) := fun i hil => by
      obtain ⟨cs, hc, ht⟩ := hi i (by omega)
      obtain ⟨o, rfl, hl, h1, h2, h3, h4⟩ := op_open ht
      obtain ⟨_, _, hcell⟩ := World.cells?_some hc
      have hd : D i ∈ (List.range len).map D := List.mem_map.2 ⟨i, List.mem_range.2 hil, rfl⟩
      have := bulk_slice_part (r := (List.range (m - len)).map fun j => D (len + j)) hd
      dsimp only at h2 h3 hb
      refine ⟨o, fun r hr => ?_, hl, ⟨?_, ?_, h1⟩, h4⟩
      · rw [← add_add, hcell r hr, Array.getElem?_toList]
      · omega
      · omega
    have hin : Inhabited OpG := ⟨⟨0, 0, [], Fr.zero, none, 0, 0, 0, 0, 0⟩⟩
    obtain ⟨L, hL⟩ := choose_lt hex
    have hbl := bulk_slice ((List.range len).map D) ((List.range (m - len)).map fun j => D (len + j))
    dsimp only at hb
    refine ⟨some a, cap, (List.range len).map L, by simp [sla], fun j hj => ?_, fun o ho => ?_, ?_⟩
    · have hj' : j < len := by simpa using hj
      obtain ⟨q, hl, _⟩ := hL j hj'
      have q0 := (hL 0 (by omega)).1 0 (by omega)
      have ea := addr_of_cell (v := .int .i64 (L 0).kind) q0
      clear q0
      generalize a.block = bb at ea
      generalize a.off = oo at ea
      subst ea
      refine ⟨bb, oo, rfl, fun r hr => ?_, by simpa using hl⟩
      have := q r hr
      rw [addr_add0] at this
      simp only [List.getElem_map, List.getElem_range]
      rw [Nat.add_assoc]; exact this
    · obtain ⟨i, hi', rfl⟩ := List.mem_map.1 ho
      exact (hL i (List.mem_range.1 hi')).2.2
    · simp at hbl ⊢; omega

end
end Go.Proofs.YtolififimldmlaaGreat

set_option linter.unusedVariables false
set_option linter.unusedSimpArgs false
namespace Go.Proofs.YtolififimldmlaaGreat
open Go.ChangeShapes Go.WideShapes Go.ChangeAt Go.RowKit Go.Deep

section
variable {X : Type} {enc : TypeId × Value → X} {w : World}
theorem cellsU8 : Tryz.prog.cellsOf 5 = 1 := by kernel_rfl
theorem u8_wf {n : Int} (h : (Lit.int .u8 n).wf = true) : 0 ≤ n ∧ n ≤ 255 := by
  unfold Lit.wf at h
  rw [Bool.and_eq_true] at h
  have e1 : IntKind.u8.min = 0 := by decide
  have e2 : IntKind.u8.max = 255 := by decide
  have h1 := of_decide_eq_true h.1
  have h2 := of_decide_eq_true h.2
  omega
/-- Bytes in a slice. -/
theorem bytes_open {fuel : Nat} {v : Value} {x : DataW X × List MemPlace} (h : DataW.trod enc Tryz.prog w 0 (fun _ => true) true fuel 31 [v] = some x) :
    ∃ (a : Option Addr) (c : Nat) (l : List UInt8), v = .slice a l.length c ∧ l.length ≤ c ∧ BytesIn w a l ∧ l.length ≤ Rows.uptoBulk x.1 := by
  rcases open_slice Tryz.underlying31 h with ⟨e, rfl⟩ | ⟨a, len, cap, m, n, D, Pl, e, _, hlc, _, hm, rfl, hi⟩
  · cases e
    exact ⟨none, 0, [], rfl, Nat.le_refl _, fun j hj => absurd hj (by simp), by simp⟩
  · cases e
    simp only [if_true] at hm
    rw [cellsU8] at hi
    have hex : ∀ i, i < len → ∃ u : UInt8, w.cell? (a.add i) = some (.int .u8 u.toNat) := fun i hil => by
      obtain ⟨cs, hc, ht⟩ := hi i (by omega)
      obtain ⟨_, hl, hcell⟩ := World.cells?_some hc
      obtain ⟨y, rfl⟩ := len1 hl
      obtain ⟨k, q, _, wf⟩ := DataW.trod_int Tryz.underlying5 ht
      cases q
      have hw := u8_wf wf
      refine ⟨UInt8.ofNat k.toNat, ?_⟩
      have := hcell 0 (by omega)
      rw [add_add, Nat.mul_one, Nat.add_zero] at this
      rw [this]
      have e : ((UInt8.ofNat k.toNat).toNat : Int) = k := by rw [UInt8.toNat_ofNat']; omega
      rw [e]; rfl
    have hin : Inhabited UInt8 := ⟨0⟩
    obtain ⟨L, hL⟩ := choose_lt hex
    refine ⟨some a, cap, (List.range len).map L, by simp, by simpa using hlc, fun j hj => ?_, ?_⟩
    · have hj' : j < len := by simpa using hj
      have q := hL 0 (by omega)
      have q0 := hL j hj'
      have ea := addr_of_cell q
      clear q
      generalize a.block = bb at ea
      generalize a.off = oo at ea
      subst ea
      rw [addr_add0] at q0
      refine ⟨bb, oo, rfl, ?_⟩
      simp only [List.getElem_map, List.getElem_range]
      exact q0
    · have hbl := bulk_slice ((List.range len).map D) ((List.range (m - len)).map fun j => D (len + j))
      dsimp only
      rw [List.length_map, List.length_range] at hbl ⊢
      exact hbl
end

theorem ownW : ownKnob Tryz.prog.godebug = none := by kernel_rfl
theorem laidOutW : laidOutB Tryz.prog = true := by kernel_rfl

set_option maxRecDepth 100000 in
theorem wire_contract (H : Type) (enc : TypeId × Value → H) (W : World) (base : Nat) (args : Array Value) (ds gs : List (DataW H)) (before : List MemPlace)
    (hval : ∀ (j : Nat) t v, Tryz.f6.params[j]? = some t → args[j]? = some v → Value.okWide Tryz.prog W .any base t v)
    (hW : DataW.Whole enc Tryz.prog Tryz.f6.params.toList Rows.wireSpec.vars false W args.toList ds gs before) (hk : Rows.uptoSmall H (ds ++ gs) = true) :
    Calls Tryz.prog 6 args W fun e W' => ∃ v, e = .returned v ∧ Rows.wireSpec.post enc Tryz.prog Tryz.f6 false true false false W args v W' := by
  have hW' := hW
  obtain ⟨p, q, hA0, hV, rfl, hfz, hnd⟩ := hW
  have hA : DataW.TrodAll enc Tryz.prog W 0 (fun _ => true) true Tryz.f6.params.toList args.toList ds p := hA0
  rw [Tryz.params6] at hA hval
  obtain ⟨v0, vs0, d0, ds0, p0, q0, hargs, rfl, rfl, h0, r0⟩ := trodAll_cons hA
  obtain ⟨v1, vs1, d1, ds1, p1, q1, rfl, rfl, rfl, h1, r1⟩ := trodAll_cons r0
  obtain ⟨rfl, rfl, rfl⟩ := trodAll_nil r1
  obtain rfl : args = #[v0, v1] := by cases args; simp_all
  obtain ⟨rfl, rfl⟩ := trodVars_none hV
  have hbk : Rows.uptoBulk d0 ≤ 1048576 ∧ Rows.uptoBulk d1 ≤ 1048576 := by
    have h : Rows.uptoBulkAll ([d0, d1] ++ []) ≤ 1048576 := of_decide_eq_true hk
    simp only [List.append_nil, Rows.uptoBulkAll] at h
    omega
  obtain ⟨cs0, rfl, _⟩ := okWide_struct Tryz.underlying30 (hval 0 30 v0 rfl rfl)
  obtain ⟨al, len, cp, rfl⟩ := okWide_slice Tryz.underlying31 (hval 1 31 v1 rfl rfl)
  have h0k := h0
  have h1k := h1
  obtain ⟨fuel, hf⟩ := h0
  obtain ⟨fuel1, hf1⟩ := h1
  obtain ⟨f, a, c, ecs, hlc, hla, hlb⟩ := frame_open (x := (d0, p0)) hf
  obtain ⟨ab, cb, b, ev, hbc, hba, hbb⟩ := bytes_open (x := (d1, p1)) hf1
  have ev0 : Value.agg cs0 = f.val a c := by
    have e1 : cs0.toList = f.cells a c := ecs
    have e2 : cs0 = (f.cells a c).toArray := by rw [← e1]
    rw [e2]; rfl
  clear hA0
  simp only [List.append_nil] at hW'
  rw [ev0, ev]
  dsimp only at hlb hbb
  refine (wire_walk f a c ab cb b W hla (by omega) hlc hba (by omega) hbc).mono fun e W' ⟨he, hb⟩ => ?_
  subst he
  rw [← ev, ← ev0]
  have hlt : ∀ x ∈ p0 ++ p1, x.block < W.heap.size := fun x hx => by simpa using hW'.lt x (by simpa using hx)
  refine ⟨_, rfl, _, _, _, [], p0 ++ (p1 ++ []), [], hW', ?_, ?_, rfl, hb.frame _, fun h => by cases h⟩
  · exact trodAll_cons_mk (shut_bool Tryz.underlying4 _) trodAll_mk0
  · exact trodAll_cons_mk (Below.trod laidOutW (by kernel_rfl) (of_decide_eq_true (by kernel_rfl)) h0k hb (fun x hx => hlt x (List.mem_append_left _ hx))) (trodAll_cons_mk (Below.trod laidOutW (by kernel_rfl) (of_decide_eq_true (by kernel_rfl)) h1k hb (fun x hx => hlt x (List.mem_append_right _ hx))) trodAll_mk0)

set_option maxRecDepth 100000 in
theorem wire_lifted (os : Os) (started : os.Started) (H : Type) (enc : TypeId × Value → H) (F : Stop.Interp) :
    ReturnsInHanded {} Tryz.checked os 6 .any ((Rows.OpenSpec.upto Rows.wireSpec).pre6 enc Tryz.prog Tryz.f6 Rows.wireUptoRow.domain false) (((Rows.OpenSpec.upto Rows.wireSpec).at F).post enc Tryz.prog Tryz.f6 false true false false) := by
  refine returnsInHanded_of_cond (C := Tryz.checked) (s := Rows.OpenSpec.upto Rows.wireSpec) (k := Rows.uptoSmall) rfl ownW started (by kernel_rfl) Tryz.func6
    (OpenSpec.witness (enc := enc) (C := Tryz.checked) (s := Rows.OpenSpec.upto Rows.wireSpec) (k := Rows.uptoSmall) rfl false ⟨#[], #[.agg #[.int .i64 0, .int .i64 0, .int .i64 0, .int .i64 0, .int .i64 0, .int .i64 0, .int .i64 0, .int .i64 0, .string ⟨#[]⟩, .slice none 0 0], .slice none 0 0], []⟩ 8 (by kernel_rfl) (by kernel_rfl) (by kernel_rfl)
      (x := ([.agg [.lit (.int .i64 0), .lit (.int .i64 0), .lit (.int .i64 0), .lit (.int .i64 0), .lit (.int .i64 0), .lit (.int .i64 0), .agg [.lit (.int .i64 0), .lit (.int .i64 0), .lit (.string [])], .nil], .nil], [], [])) (by kernel_rfl) rfl (by kernel_rfl)) ?_
  intro W base args ds gs before hval hW _ hk _
  exact wire_contract H enc W base args ds gs before hval hW hk

theorem wireProof : Rows.WireUptoSaid :=
  OpenClaim.holds_of_cond 6 Tryz.f6 rfl rfl rfl rfl rfl rfl rfl ⟨rfl, rfl, rfl, rfl, rfl⟩ rfl rfl rfl rfl rfl (by kernel_rfl) Tryz.func6 (by kernel_rfl)
    (of_decide_eq_true (by kernel_rfl)) (by unfold Func.isWrapper; first | (rw [if_pos (by decide +kernel)]; kernel_rfl) | (rw [if_neg (by decide +kernel)]; exact ⟨rfl, rfl⟩))
    (fun os started H enc _ F => wire_lifted os started H enc F)

end Go.Proofs.YtolififimldmlaaGreat
