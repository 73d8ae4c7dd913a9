import Derived.Test.YtolififimldmlaaGreatPart42
import Derived.Test.YtolififimldmlaaGreatPart40
set_option linter.unusedVariables false
set_option linter.unusedSimpArgs false
namespace Go.Proofs.YtolififimldmlaaGreat
open Go.RowKit Go.Deep

section
variable {X : Type} {enc : TypeId × Value → X} {w : World}

theorem len10 {α : Type} {l : List α} (h : l.length = 10) : ∃ a0 a1 a2 a3 a4 a5 a6 a7 a8 a9, l = [a0, a1, a2, a3, a4, a5, a6, a7, a8, a9] := by
  match l, h with
  | [a0, a1, a2, a3, a4, a5, a6, a7, a8, a9], _ => exact ⟨a0, a1, a2, a3, a4, a5, a6, a7, a8, a9, rfl⟩
theorem len17 {α : Type} {l : List α} (h : l.length = 17) : ∃ a0 a1 a2 a3 a4 a5 a6 a7 a8 a9 b0 b1 b2 b3 b4 b5 b6, l = [a0, a1, a2, a3, a4, a5, a6, a7, a8, a9, b0, b1, b2, b3, b4, b5, b6] := by
  match l, h with
  | [a0, a1, a2, a3, a4, a5, a6, a7, a8, a9, b0, b1, b2, b3, b4, b5, b6], _ => exact ⟨a0, a1, a2, a3, a4, a5, a6, a7, a8, a9, b0, b1, b2, b3, b4, b5, b6, rfl⟩

/-- A frame's cells. -/
def Fr.cells (f : Fr) (a : Option Addr) (c : Nat) : List Value :=
  [.int .i64 f.kind, .int .i64 f.frm, .int .i64 f.view, .int .i64 f.place, .int .i64 f.agreed, .int .i64 f.last, .int .i64 f.line.c, .int .i64 f.line.t, .string ⟨f.line.s.toArray⟩, sla a f.lines.length c]

theorem frame_open {fuel : Nat} {cs : List Value} {x : DataW X × List MemPlace} (h : DataW.trod enc Tryz.prog w 0 (fun _ => true) true fuel 30 cs = some x) :
    ∃ (f : Fr) (a : Option Addr) (c : Nat), cs = f.cells a c ∧ f.lines.length ≤ c ∧ LinesAt w a f.lines ∧ f.lines.length ≤ Rows.uptoBulk x.1 := by
  obtain ⟨xs, n, _, ex, hl, hx, hf⟩ := DataW.trod_struct Tryz.underlying30 h
  rw [cellsFrame] at hl
  have hx8 : xs.length = 8 := hx
  have h0 : DataW.trod enc Tryz.prog w 0 (fun _ => true) true n 3 ((cs.drop 0).take (Tryz.prog.cellsOf 3)) = xs[0]? := hf 0 _ rfl
  have h1 : DataW.trod enc Tryz.prog w 0 (fun _ => true) true n 3 ((cs.drop 1).take (Tryz.prog.cellsOf 3)) = xs[1]? := hf 1 _ rfl
  have h2 : DataW.trod enc Tryz.prog w 0 (fun _ => true) true n 3 ((cs.drop 2).take (Tryz.prog.cellsOf 3)) = xs[2]? := hf 2 _ rfl
  have h3 : DataW.trod enc Tryz.prog w 0 (fun _ => true) true n 3 ((cs.drop 3).take (Tryz.prog.cellsOf 3)) = xs[3]? := hf 3 _ rfl
  have h4 : DataW.trod enc Tryz.prog w 0 (fun _ => true) true n 3 ((cs.drop 4).take (Tryz.prog.cellsOf 3)) = xs[4]? := hf 4 _ rfl
  have h5 : DataW.trod enc Tryz.prog w 0 (fun _ => true) true n 3 ((cs.drop 5).take (Tryz.prog.cellsOf 3)) = xs[5]? := hf 5 _ rfl
  have h6 : DataW.trod enc Tryz.prog w 0 (fun _ => true) true n 27 ((cs.drop 6).take (Tryz.prog.cellsOf 27)) = xs[6]? := hf 6 _ rfl
  have h7 : DataW.trod enc Tryz.prog w 0 (fun _ => true) true n 28 ((cs.drop 9).take (Tryz.prog.cellsOf 28)) = xs[7]? := hf 7 _ rfl
  clear hf hx h
  obtain ⟨y6, e6⟩ := some_at hx8 6 (by omega)
  obtain ⟨y7, e7⟩ := some_at hx8 7 (by omega)
  rw [e6, cellsLine] at h6
  rw [e7, cellsSl] at h7
  obtain ⟨y0, e0⟩ := some_at hx8 0 (by omega)
  rw [e0, cellsInt] at h0
  obtain ⟨y1, e1⟩ := some_at hx8 1 (by omega)
  rw [e1, cellsInt] at h1
  obtain ⟨y2, e2⟩ := some_at hx8 2 (by omega)
  rw [e2, cellsInt] at h2
  obtain ⟨y3, e3⟩ := some_at hx8 3 (by omega)
  rw [e3, cellsInt] at h3
  obtain ⟨y4, e4⟩ := some_at hx8 4 (by omega)
  rw [e4, cellsInt] at h4
  obtain ⟨y5, e5⟩ := some_at hx8 5 (by omega)
  rw [e5, cellsInt] at h5
  obtain ⟨a0, a1, a2, a3, a4, a5, a6, a7, a8, a9, rfl⟩ := len10 hl
  obtain ⟨n0, q0, _⟩ := DataW.trod_int Tryz.underlying3 h0
  obtain ⟨n1, q1, _⟩ := DataW.trod_int Tryz.underlying3 h1
  obtain ⟨n2, q2, _⟩ := DataW.trod_int Tryz.underlying3 h2
  obtain ⟨n3, q3, _⟩ := DataW.trod_int Tryz.underlying3 h3
  obtain ⟨n4, q4, _⟩ := DataW.trod_int Tryz.underlying3 h4
  obtain ⟨n5, q5, _⟩ := DataW.trod_int Tryz.underlying3 h5
  obtain ⟨l, el⟩ := line_open h6
  obtain ⟨a, c, ls, ev, hc, hla, hb⟩ := lines_open h7
  cases el
  subst ev
  refine ⟨⟨n0, n1, n2, n3, n4, n5, l, ls⟩, a, c, ?_, hc, hla, ?_⟩
  · simp only [Fr.cells]
    cases q0; cases q1; cases q2; cases q3; cases q4; cases q5
    rfl
  · have hm : y7.1 ∈ xs.map (·.1) := List.mem_map.2 ⟨y7, List.mem_of_getElem? e7, rfl⟩
    have := bulk_agg_part hm
    rw [ex]; dsimp only; omega

/-- A configuration's cells. -/
theorem config_open {fuel : Nat} {cs : List Value} {x : DataW X × List MemPlace} (h : DataW.trod enc Tryz.prog w 0 (fun _ => true) true fuel 63 cs = some x) : ∃ c1 c2 c3 : Int, cs = [.int .i64 c1, .int .i64 c2, .int .i64 c3] := by
  obtain ⟨xs, n, _, _, hl, hx, hf⟩ := DataW.trod_struct Tryz.underlying63 h
  rw [cellsConfig] at hl
  have hx3 : xs.length = 3 := hx
  have h0 : DataW.trod enc Tryz.prog w 0 (fun _ => true) true n 3 ((cs.drop 0).take (Tryz.prog.cellsOf 3)) = xs[0]? := hf 0 _ rfl
  have h1 : DataW.trod enc Tryz.prog w 0 (fun _ => true) true n 3 ((cs.drop 1).take (Tryz.prog.cellsOf 3)) = xs[1]? := hf 1 _ rfl
  have h2 : DataW.trod enc Tryz.prog w 0 (fun _ => true) true n 3 ((cs.drop 2).take (Tryz.prog.cellsOf 3)) = xs[2]? := hf 2 _ rfl
  clear hf hx h
  obtain ⟨y0, e0⟩ := some_at hx3 0 (by omega)
  obtain ⟨y1, e1⟩ := some_at hx3 1 (by omega)
  obtain ⟨y2, e2⟩ := some_at hx3 2 (by omega)
  rw [e0, cellsInt] at h0
  rw [e1, cellsInt] at h1
  rw [e2, cellsInt] at h2
  obtain ⟨a, b, c, rfl⟩ := len3 hl
  obtain ⟨c0, e3, _⟩ := DataW.trod_int Tryz.underlying3 h0
  obtain ⟨t0, e4, _⟩ := DataW.trod_int Tryz.underlying3 h1
  obtain ⟨s0, e5, _⟩ := DataW.trod_int Tryz.underlying3 h2
  cases e3; cases e4; cases e5
  exact ⟨_, _, _, rfl⟩

theorem int_wf {n : Int} (h : (Lit.int .i64 n).wf = true) : -9223372036854775808 ≤ n ∧ n ≤ 9223372036854775807 := by
  unfold Lit.wf at h
  rw [Bool.and_eq_true] at h
  have e1 : IntKind.i64.min = -9223372036854775808 := by decide
  have e2 : IntKind.i64.max = 9223372036854775807 := by decide
  have h1 := of_decide_eq_true h.1
  have h2 := of_decide_eq_true h.2
  omega

/-- A step's cells. -/
theorem op_open {fuel : Nat} {cs : List Value} {x : DataW X × List MemPlace} (h : DataW.trod enc Tryz.prog w 0 (fun _ => true) true fuel 76 cs = some x) :
    ∃ o : OpG, cs = o.cells.toList ∧ LinesAt w o.fa o.f.lines ∧ o.f.lines.length ≤ o.fc ∧ o.f.lines.length ≤ Rows.uptoBulk x.1 ∧ o.s.length ≤ Rows.uptoBulk x.1 ∧ o.ranged := by
  obtain ⟨xs, n, _, ex, hl, hx, hf⟩ := DataW.trod_struct Tryz.underlying76 h
  rw [cellsOp] at hl
  have hx6 : xs.length = 6 := hx
  have h0 : DataW.trod enc Tryz.prog w 0 (fun _ => true) true n 3 ((cs.drop 0).take (Tryz.prog.cellsOf 3)) = xs[0]? := hf 0 _ rfl
  have h1 : DataW.trod enc Tryz.prog w 0 (fun _ => true) true n 3 ((cs.drop 1).take (Tryz.prog.cellsOf 3)) = xs[1]? := hf 1 _ rfl
  have h2 : DataW.trod enc Tryz.prog w 0 (fun _ => true) true n 9 ((cs.drop 2).take (Tryz.prog.cellsOf 9)) = xs[2]? := hf 2 _ rfl
  have h3 : DataW.trod enc Tryz.prog w 0 (fun _ => true) true n 30 ((cs.drop 3).take (Tryz.prog.cellsOf 30)) = xs[3]? := hf 3 _ rfl
  have h4 : DataW.trod enc Tryz.prog w 0 (fun _ => true) true n 63 ((cs.drop 13).take (Tryz.prog.cellsOf 63)) = xs[4]? := hf 4 _ rfl
  have h5 : DataW.trod enc Tryz.prog w 0 (fun _ => true) true n 3 ((cs.drop 16).take (Tryz.prog.cellsOf 3)) = xs[5]? := hf 5 _ rfl
  clear hf hx h
  obtain ⟨y0, e0⟩ := some_at hx6 0 (by omega)
  obtain ⟨y1, e1⟩ := some_at hx6 1 (by omega)
  obtain ⟨y2, e2⟩ := some_at hx6 2 (by omega)
  obtain ⟨y3, e3⟩ := some_at hx6 3 (by omega)
  obtain ⟨y4, e4⟩ := some_at hx6 4 (by omega)
  obtain ⟨y5, e5⟩ := some_at hx6 5 (by omega)
  rw [e0, cellsInt] at h0
  rw [e1, cellsInt] at h1
  rw [e2, cellsStr] at h2
  rw [e3, cellsFrame] at h3
  rw [e4, cellsConfig] at h4
  rw [e5, cellsInt] at h5
  obtain ⟨a0, a1, a2, a3, a4, a5, a6, a7, a8, a9, b0, b1, b2, b3, b4, b5, b6, rfl⟩ := len17 hl
  obtain ⟨k0, q0, _⟩ := DataW.trod_int Tryz.underlying3 h0
  obtain ⟨k1, q1, _, wf1⟩ := DataW.trod_int Tryz.underlying3 h1
  obtain ⟨s0, q2, r2, _⟩ := DataW.trod_string Tryz.underlying9 h2
  obtain ⟨f, a, c, q3, hc, hla, hb⟩ := frame_open h3
  obtain ⟨c1, c2, c3, q4⟩ := config_open h4
  obtain ⟨k5, q5, _⟩ := DataW.trod_int Tryz.underlying3 h5
  have m2 : y2.1 ∈ xs.map (·.1) := List.mem_map.2 ⟨y2, List.mem_of_getElem? e2, rfl⟩
  have m3 : y3.1 ∈ xs.map (·.1) := List.mem_map.2 ⟨y3, List.mem_of_getElem? e3, rfl⟩
  have g2 := bulk_agg_part m2
  have g3 := bulk_agg_part m3
  refine ⟨⟨k0, k1, s0.data.toList, f, a, c, c1, c2, c3, k5⟩, ?_, hla, hc, ?_, ?_, int_wf wf1⟩
  · simp only [Fr.cells] at q3
    cases q0; cases q1; cases q2; cases q3; cases q4; cases q5
    rfl
  · rw [ex]; dsimp only; omega
  · rw [ex]; dsimp only
    rw [r2] at g2
    simp only [Rows.uptoBulk] at g2
    simp only [Rows.uptoBulk]
    omega

/-- A script. -/
theorem ops_open {fuel : Nat} {v : Value} {x : DataW X × List MemPlace} (h : DataW.trod enc Tryz.prog w 0 (fun _ => true) true fuel 22 [v] = some x) (hb : Rows.uptoBulk x.1 ≤ 1048576) :
    ∃ (a : Option Addr) (c : Nat) (ops : List OpG), v = sla a ops.length c ∧ OpsAt w a ops ∧ (∀ o ∈ ops, o.small ∧ o.ranged) ∧ ops.length ≤ 1048576 := by
  rcases open_slice Tryz.underlying22 h with ⟨e, rfl⟩ | ⟨a, len, cap, m, n, D, Pl, e, _, hlc, _, hm, rfl, hi⟩
  · cases e
    exact ⟨none, 0, [], rfl, fun j hj => absurd hj (by simp), fun o ho => (by cases ho), by simp⟩
  · cases e
    simp only [if_true] at hm
    rw [cellsOp] at hi
    have hex : ∀ i, i < len → ∃ o : OpG, (∀ r, r < 17 → w.cell? (a.add (i * 17 + r)) = o.cells[r]?) ∧ LinesAt w o.fa o.f.lines ∧ (o.small ∧ o.ranged) := fun i hil => by
      obtain ⟨cs, hc, ht⟩ := hi i (by omega)
      obtain ⟨o, rfl, hl, h1, h2, h3, h4⟩ := op_open ht
      obtain ⟨_, _, hcell⟩ := World.cells?_some hc
      have hd : D i ∈ (List.range len).map D := List.mem_map.2 ⟨i, List.mem_range.2 hil, rfl⟩
      have := bulk_slice_part (r := (List.range (m - len)).map fun j => D (len + j)) hd
      dsimp only at h2 h3 hb
      refine ⟨o, fun r hr => ?_, hl, ⟨?_, ?_, h1⟩, h4⟩
      · rw [← add_add, hcell r hr, Array.getElem?_toList]
      · omega
      · omega
    have hin : Inhabited OpG := ⟨⟨0, 0, [], Fr.zero, none, 0, 0, 0, 0, 0⟩⟩
    obtain ⟨L, hL⟩ := choose_lt hex
    have hbl := bulk_slice ((List.range len).map D) ((List.range (m - len)).map fun j => D (len + j))
    dsimp only at hb
    refine ⟨some a, cap, (List.range len).map L, by simp [sla], fun j hj => ?_, fun o ho => ?_, ?_⟩
    · have hj' : j < len := by simpa using hj
      obtain ⟨q, hl, _⟩ := hL j hj'
      have q0 := (hL 0 (by omega)).1 0 (by omega)
      have ea := addr_of_cell (v := .int .i64 (L 0).kind) q0
      clear q0
      generalize a.block = bb at ea
      generalize a.off = oo at ea
      subst ea
      refine ⟨bb, oo, rfl, fun r hr => ?_, by simpa using hl⟩
      have := q r hr
      rw [addr_add0] at this
      simp only [List.getElem_map, List.getElem_range]
      rw [Nat.add_assoc]; exact this
    · obtain ⟨i, hi', rfl⟩ := List.mem_map.1 ho
      exact (hL i (List.mem_range.1 hi')).2.2
    · simp at hbl ⊢; omega

end
end Go.Proofs.YtolififimldmlaaGreat
