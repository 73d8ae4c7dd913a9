import Derived.Test.YtolififimldmlaaGreatRefA
import Derived.Test.YtolififimldmlaaGreatRows
import Derived.ProofKit
import Derived.Deep.Slices
set_option linter.unusedVariables false
set_option linter.unusedSimpArgs false
namespace Go.Proofs.YtolififimldmlaaGreat
open Go.RowKit Go.Deep

/-! What the reading of a script says of memory. -/
section
variable {X : Type} {enc : TypeId × Value → X} {w : World}

theorem bulk_pos {H : Type} (d : DataW H) : 1 ≤ Rows.uptoBulk d := by
  cases d with
  | lit l => cases l <;> simp [Rows.uptoBulk]
  | nil => simp [Rows.uptoBulk]
  | ptr d => simp [Rows.uptoBulk]
  | slice elems spare => simp [Rows.uptoBulk]
  | agg parts => simp [Rows.uptoBulk]
  | iface t d => simp [Rows.uptoBulk]
  | map entries => simp [Rows.uptoBulk]
  | held h => simp [Rows.uptoBulk]
theorem bulk_part {H : Type} {d : DataW H} {l : List (DataW H)} (h : d ∈ l) : Rows.uptoBulk d ≤ Rows.uptoBulkAll l := by
  induction l with
  | nil => cases h
  | cons x r ih =>
    simp only [Rows.uptoBulkAll]
    cases List.mem_cons.1 h with
    | inl e => subst e; omega
    | inr e => have := ih e; omega
theorem bulk_len {H : Type} (l : List (DataW H)) : l.length ≤ Rows.uptoBulkAll l := by
  induction l with
  | nil => simp [Rows.uptoBulkAll]
  | cons x r ih => have := bulk_pos x; simp only [Rows.uptoBulkAll, List.length_cons]; omega
theorem bulk_slice {H : Type} (l r : List (DataW H)) : l.length ≤ Rows.uptoBulk (.slice l r) := by
  have := bulk_len l
  simp only [Rows.uptoBulk]; omega
theorem bulk_slice_part {H : Type} {d : DataW H} {l r : List (DataW H)} (h : d ∈ l) : Rows.uptoBulk d ≤ Rows.uptoBulk (.slice l r) := by
  have := bulk_part h
  simp only [Rows.uptoBulk]; omega
theorem bulk_agg_part {H : Type} {d : DataW H} {l : List (DataW H)} (h : d ∈ l) : Rows.uptoBulk d ≤ Rows.uptoBulk (.agg l) := by
  have := bulk_part h
  simp only [Rows.uptoBulk]; omega

theorem cellsLine : Tryz.prog.cellsOf 27 = 3 := by kernel_rfl
theorem cellsFrame : Tryz.prog.cellsOf 30 = 10 := by kernel_rfl
theorem cellsConfig : Tryz.prog.cellsOf 63 = 3 := by kernel_rfl
theorem cellsOp : Tryz.prog.cellsOf 76 = 17 := by kernel_rfl
theorem cellsInt : Tryz.prog.cellsOf 3 = 1 := by kernel_rfl
theorem cellsStr : Tryz.prog.cellsOf 9 = 1 := by kernel_rfl
theorem cellsSl : Tryz.prog.cellsOf 28 = 1 := by kernel_rfl

theorem addr_add0 (g o j : Nat) : (⟨g, o, none⟩ : Addr).add j = ⟨g, o + j, none⟩ := by unfold Addr.add; split <;> simp_all

theorem len1 {α : Type} {l : List α} (h : l.length = 1) : ∃ a, l = [a] := by
  match l, h with
  | [a], _ => exact ⟨a, rfl⟩
theorem len3 {α : Type} {l : List α} (h : l.length = 3) : ∃ a b c, l = [a, b, c] := by
  match l, h with
  | [a, b, c], _ => exact ⟨a, b, c, rfl⟩
theorem some_at {α : Type} {l : List α} {n : Nat} (h : l.length = n) (i : Nat) (hi : i < n) : ∃ y, l[i]? = some y := ⟨l[i], List.getElem?_eq_getElem (by omega)⟩

/-- A line's cells. -/
theorem line_open {fuel : Nat} {cs : List Value} {x : DataW X × List MemPlace} (h : DataW.trod enc Tryz.prog w 0 (fun _ => true) true fuel 27 cs = some x) : ∃ l : Ln, cs = l.cells := by
  obtain ⟨xs, n, _, _, hl, hx, hf⟩ := DataW.trod_struct Tryz.underlying27 h
  rw [cellsLine] at hl
  have hx3 : xs.length = 3 := hx
  have h0 : DataW.trod enc Tryz.prog w 0 (fun _ => true) true n 3 ((cs.drop 0).take (Tryz.prog.cellsOf 3)) = xs[0]? := hf 0 _ rfl
  have h1 : DataW.trod enc Tryz.prog w 0 (fun _ => true) true n 3 ((cs.drop 1).take (Tryz.prog.cellsOf 3)) = xs[1]? := hf 1 _ rfl
  have h2 : DataW.trod enc Tryz.prog w 0 (fun _ => true) true n 9 ((cs.drop 2).take (Tryz.prog.cellsOf 9)) = xs[2]? := hf 2 _ rfl
  clear hf hx h
  obtain ⟨y0, e0⟩ := some_at hx3 0 (by omega)
  obtain ⟨y1, e1⟩ := some_at hx3 1 (by omega)
  obtain ⟨y2, e2⟩ := some_at hx3 2 (by omega)
  rw [e0, cellsInt] at h0
  rw [e1, cellsInt] at h1
  rw [e2, cellsStr] at h2
  obtain ⟨a, b, c, rfl⟩ := len3 hl
  obtain ⟨c0, e3, _⟩ := DataW.trod_int Tryz.underlying3 h0
  obtain ⟨t0, e4, _⟩ := DataW.trod_int Tryz.underlying3 h1
  obtain ⟨s0, e5, _⟩ := DataW.trod_string Tryz.underlying9 h2
  cases e3; cases e4; cases e5
  exact ⟨⟨c0, t0, s0.data.toList⟩, rfl⟩

theorem addr_of_cell {a : Addr} {v : Value} (h : w.cell? (a.add 0) = some v) : a = ⟨a.block, a.off, none⟩ := by
  obtain ⟨b, o, s⟩ := a
  cases s with
  | none => rfl
  | some s =>
    have : w.cell? ((⟨b, o, some s⟩ : Addr).add 0) = none := by
      unfold World.cell? Addr.add
      split
      · simp
      · rfl
    rw [this] at h; cases h

/-- Lines in a slice. -/
theorem lines_open {fuel : Nat} {v : Value} {x : DataW X × List MemPlace} (h : DataW.trod enc Tryz.prog w 0 (fun _ => true) true fuel 28 [v] = some x) :
    ∃ (a : Option Addr) (c : Nat) (ls : List Ln), v = sla a ls.length c ∧ ls.length ≤ c ∧ LinesAt w a ls ∧ ls.length ≤ Rows.uptoBulk x.1 := by
  rcases open_slice Tryz.underlying28 h with ⟨e, rfl⟩ | ⟨a, len, cap, m, n, D, Pl, e, _, hlc, _, hm, rfl, hi⟩
  · cases e
    exact ⟨none, 0, [], rfl, Nat.le_refl _, fun j hj => absurd hj (by simp), by simp⟩
  · cases e
    simp only [if_true] at hm
    rw [cellsLine] at hi
    have hex : ∀ i, i < len → ∃ l : Ln, ∀ r, r < 3 → w.cell? (a.add (i * 3 + r)) = l.cells[r]? := fun i hil => by
      obtain ⟨cs, hc, ht⟩ := hi i (by omega)
      obtain ⟨l, rfl⟩ := line_open ht
      obtain ⟨_, _, hcell⟩ := World.cells?_some hc
      exact ⟨l, fun r hr => by rw [← add_add]; exact hcell r hr⟩
    have hin : Inhabited Ln := ⟨Ln.zero⟩
    obtain ⟨L, hL⟩ := choose_lt hex
    refine ⟨some a, cap, (List.range len).map L, by simp [sla], by simpa using hlc, fun j hj => ?_, ?_⟩
    · have hj' : j < len := by simpa using hj
      have q := hL 0 (by omega) 0 (by omega)
      have q0 := hL j hj' 0 (by omega)
      have q1 := hL j hj' 1 (by omega)
      have q2 := hL j hj' 2 (by omega)
      have ea := addr_of_cell (v := .int .i64 (L 0).c) q
      clear q
      generalize a.block = bb at ea
      generalize a.off = oo at ea
      subst ea
      rw [addr_add0] at q0 q1 q2
      refine ⟨bb, oo, rfl, ?_⟩
      simp only [List.getElem_map, List.getElem_range]
      exact ⟨q0, by rw [Nat.add_assoc]; exact q1, by rw [Nat.add_assoc]; exact q2⟩
    · have := bulk_slice ((List.range len).map D) ((List.range (m - len)).map fun j => D (len + j))
      simpa using this

end
end Go.Proofs.YtolififimldmlaaGreat
