import Derived.Test.YtolififimldmlaaGreatPart08
import Derived.Test.YtolififimldmlaaGreatPart09
import Derived.Deep.AppendSrc
import Derived.Test.YtolififimldmlaaGreatPart07
import Derived.Test.YtolififimldmlaaGreatPart02
import Derived.Test.YtolififimldmlaaGreatPart05
set_option linter.unusedVariables false
set_option linter.unusedSimpArgs false
namespace Go.Proofs.YtolififimldmlaaGreat
open Go.RowKit
attribute [local go_sem ↓] Go.wp_at_zero Go.wp_at_succ

/-- 'copy' to the head of a row of one's own, of all that the source has. -/
theorem run_cpy {P : Program} (w : World) (dT sT ty e : TypeId) (i : TypeInfo) (hu : P.underlying dT = some (.slice e)) (hi : P.info? e = some i) (g dLen dCap : Nat) (cur : Array Value) (t : TypeId) (hg : w.heap[g]? = some (.cells cur t (0, 0)))
    (x : Value) (n : Nat) (news : List Value) (hs : Src P i.size sT x n news w) (hn : n ≤ dLen) (hfit : news.length ≤ cur.size) :
    (Builtin.copy_ #[dT, sT] ty #[.slice (some ⟨g, 0, none⟩) dLen dCap, x]).run P w = .ok (goInt n) (w.setRow g (news ++ cur.toList.drop news.length).toArray) := by
  have hst := run_storeCells_at P g 0 t news 0 cur w hg (by simpa using hfit) hs.one
  simp only [Nat.add_zero, Nat.zero_add, List.take_zero, List.nil_append] at hst
  simp [Builtin.copy_, run_underlying hu, sizeOf, typeInfo, hi, hs.len, Nat.min_eq_left hn, hs.cells, hst]

theorem wpList_cpy {P : Program} (w : World) {ops : Array Oper} {rest : List Oper} {o : Oper} {a : Act} {Q : Exit → Act → World → Prop} (hgd : o.guard = none) (d s : Operand) (dT sT : TypeId)
    (ho : o.op = .call { callee := .builtin .copy, args := #[d, s], argTypes := #[dT, sT] }) (e : TypeId) (i : TypeInfo) (hu : P.underlying dT = some (.slice e)) (hi : P.info? e = some i) (g dLen dCap : Nat) (cur : Array Value) (t : TypeId)
    (hg : w.heap[g]? = some (.cells cur t (0, 0))) (hd : a.eval d = .slice (some ⟨g, 0, none⟩) dLen dCap) (x : Value) (hx : a.eval s = x) (n : Nat) (news : List Value) (hs : Src P i.size sT x n news w) (hn : n ≤ dLen) (hfit : news.length ≤ cur.size)
    (h : wpList P ops Q rest (a.put o.dst (goInt n)) (w.setRow g (news ++ cur.toList.drop news.length).toArray)) : wpList P ops Q (o :: rest) a w := by
  refine wpList_plain hgd fun K hK => ?_
  have hrun := run_cpy (P := P) w dT sT o.type e i hu hi g dLen dCap cur t hg x n news hs hn hfit
  unfold Oper.wp
  simp [execOp, ho, resolve, invoke, builtin, hd, hx, hrun, Result.andThen]
  exact hK _ _ h

/-- Bytes lie at a block's head, and behind them eight places of spare room. -/
structure Lent (w : World) (g : Nat) (l : List UInt8) : Prop where
  own : OwnRow w 5 1 (some g) (l.length + 8) (l.length + 8)
  at_ : ∀ j, (h : j < l.length) → w.cell? ⟨g, j, none⟩ = some (.int .u8 l[j].toNat)
  sp : ∀ j, l.length ≤ j → j < l.length + 8 → w.cell? ⟨g, j, none⟩ = some (.int .u8 201)

theorem Lent.touch {T : Nat → Prop} {w w' : World} {g : Nat} {l : List UInt8} (h : Lent w g l) (ht : Touch T w w') (hn : ¬ T g) : Lent w' g l :=
  ⟨h.own.touch ht (fun k e => by cases e; exact hn), fun j hj => ht.cell (h.at_ j hj) hn, fun j h1 h2 => ht.cell (h.sp j h1 h2) hn⟩
theorem Lent.below {w w' : World} {g : Nat} {l : List UInt8} (h : Lent w g l) (hb : Below w.heap.size w w') : Lent w' g l := h.touch (T := fun _ => False) (Touch.of_belowAll hb _) (fun e => e)

set_option maxRecDepth 100000 in
set_option maxHeartbeats 1000000 in
theorem lent_any (l : List UInt8) (w : World) (hn : l.length ≤ 10000000) :
    Calls Tryz.prog 62 #[.string ⟨l.toArray⟩] w fun e w' => e = .returned (.slice (some ⟨w.heap.size, 0, none⟩) (l.length + 8) (l.length + 8)) ∧ Lent w' w.heap.size l ∧ Below w.heap.size w w' := by
  obtain ⟨ib, hib, hib0, hib1, hib2⟩ := info_parts Tryz.info5
  have hmk := fun (w : World) => run_make (P := Tryz.prog) w 31 5 ib (.int .u8 0) Tryz.underlying31 hib hib0 .i64 .i64 ((l.length : Int) + 8) ((l.length : Int) + 8) (by omega) (by omega) (by rw [hib2]; omega) (by omega)
  simp only [hib1, show ((l.length : Int) + 8).toNat = l.length + 8 from by omega, Nat.mul_one] at hmk
  have hg : (w.alloc (.cells (madeCells #[.int .u8 0] (l.length + 8)) 5)).heap[w.heap.size]? = some (.cells (madeCells #[.int .u8 0] (l.length + 8)) 5 (0, 0)) := heap_alloc_new w _
  have hsz : (madeCells #[.int .u8 0] (l.length + 8)).size = l.length + 8 := size_madeCells _ _
  have hcp := fun ty => run_cpy (P := Tryz.prog) (w.alloc (.cells (madeCells #[.int .u8 0] (l.length + 8)) 5)) 31 9 ty 5 ib Tryz.underlying31 hib w.heap.size (l.length + 8) (l.length + 8) _ 5 hg (.string ⟨l.toArray⟩) _ _ (by rw [hib1]; exact Src.ofString _ Tryz.underlying9 ⟨l.toArray⟩) (by show l.length ≤ _; omega) (by rw [byteCells_length, hsz]; show l.length ≤ _; omega)
  have hss : (⟨l.toArray⟩ : ByteArray).size = l.length := rfl
  rw [hss] at hcp
  have HG := hid hg
  have HSZ := hid hsz
  clear hg hsz hss
  go_enter Tryz.func62, Tryz.ntmps62
  have HC : Hid (∀ W : World, W = (w.alloc (.cells (madeCells #[.int .u8 0] (l.length + 8)) 5)).setRow w.heap.size (byteCells ⟨l.toArray⟩ ++ List.drop (byteCells ⟨l.toArray⟩).length (madeCells #[.int .u8 0] (l.length + 8)).toList).toArray →
      OwnRow W 5 1 (some w.heap.size) (l.length + 8) (l.length + 8) ∧ (∀ j, (h : j < l.length) → W.cell? ⟨w.heap.size, j, none⟩ = some (.int .u8 l[j].toNat)) ∧ Below w.heap.size w W) := fun W hW => by
    have hbl : (byteCells ⟨l.toArray⟩).length = l.length := byteCells_length _
    have hr := setRow_heap _ w.heap.size _ (byteCells ⟨l.toArray⟩ ++ List.drop (byteCells ⟨l.toArray⟩).length (madeCells #[.int .u8 0] (l.length + 8)).toList).toArray 5 (0, 0) HG.out
    rw [← hW] at hr
    have hsz := HSZ.out
    refine ⟨.inr ⟨_, _, rfl, hr, ?_, Nat.le_refl _, by simp only [maxLen]; omega⟩, fun j hj => ?_, ?_⟩
    · simp only [List.size_toArray, List.length_append, List.length_drop, Array.length_toList, hbl, hsz]; omega
    · rw [cell_of_heap hr]
      simp only [List.getElem?_toArray]
      rw [List.getElem?_append_left (by omega)]
      simp [byteCells, List.getElem?_eq_getElem hj]
    · rw [hW]; exact below_setRow ((Below.refl _ _).alloc (Nat.le_refl _) _) (Nat.le_refl _) _
  go_wp2
  obtain ⟨W1, hW1⟩ : ∃ W1, W1 = (w.alloc (.cells (madeCells #[.int .u8 0] (l.length + 8)) 5)).setRow w.heap.size (byteCells ⟨l.toArray⟩ ++ List.drop (byteCells ⟨l.toArray⟩).length (madeCells #[.int .u8 0] (l.length + 8)).toList).toArray := ⟨_, rfl⟩
  have HF := hid (HC.out W1 hW1)
  rw [← hW1]
  clear hW1 HC HG HSZ hcp hmk
  go_loopw [4] (fun i wr => ∃ k : Nat, l.length ≤ k ∧ k ≤ l.length + 8 ∧ i = .int .i64 k ∧ Hid (OwnRow wr 5 1 (some w.heap.size) (l.length + 8) (l.length + 8) ∧ (∀ j, (h : j < l.length) → wr.cell? ⟨w.heap.size, j, none⟩ = some (.int .u8 l[j].toNat)) ∧
      (∀ j, l.length ≤ j → j < k → wr.cell? ⟨w.heap.size, j, none⟩ = some (.int .u8 201)) ∧ Below w.heap.size w wr)) (fun i _ => l.length + 8 - (intOf i).toNat)
  case atStart => exact ⟨l.length, Nat.le_refl _, by omega, rfl, HF.out.1, HF.out.2.1, fun j h1 h2 => by omega, HF.out.2.2⟩
  case round =>
    obtain ⟨k, hk1, hk2, rfl, HI⟩ := hrel
    by_cases hlt : k < l.length + 8
    · obtain ⟨v0, dg, df⟩ := ownRow_cell (j := k) HI.out.1 (by omega)
      go_wp2
      go_roundw
      case rel =>
        obtain ⟨a1, a2, a3, a4⟩ := HI.out
        refine ⟨k + 1, by omega, by omega, by go_num, a1.set _ _, fun j hj => ?_, fun j h1 h2 => ?_, a4.setCell (Nat.le_refl _) _⟩
        · rw [cell_set_ne _ (by omega)]; exact a2 j hj
        · by_cases e : j = k
          · subst e; exact cell_set_same _ dg
          · rw [cell_set_ne _ (by omega)]; exact a3 j h1 (by omega)
      case measure => simp [intOf]; omega
    · go_wp2
      go_ret
      obtain ⟨a1, a2, a3, a4⟩ := HI.out
      exact ⟨rfl, ⟨a1, a2, fun j h1 h2 => a3 j h1 (by omega)⟩, a4⟩


end Go.Proofs.YtolififimldmlaaGreat

set_option linter.unusedVariables false
set_option linter.unusedSimpArgs false
namespace Go.Proofs.YtolififimldmlaaGreat
open Go.RowKit
attribute [local go_sem ↓] Go.wp_at_zero Go.wp_at_succ

set_option maxRecDepth 100000 in
set_option maxHeartbeats 1000000 in
theorem still_any (l : List UInt8) (g c : Nat) (w : World) (hn : l.length ≤ 10000000) (hl : Lent w g l) :
    Calls Tryz.prog 64 #[.slice (some ⟨g, 0, none⟩) (l.length + 8) c, .string ⟨l.toArray⟩] w fun e w' => e = .returned (.bool true) ∧ Below w.heap.size w w' := by
  have HL := hid hl
  clear hl
  go_enter Tryz.func64, Tryz.ntmps64
  go_wp2
  go_loopw [5] (fun i wr => ∃ (k m : Nat), k ≤ l.length + 8 ∧ i = .int .i64 k ∧ wr = w.drewN m) (fun i _ => l.length + 8 - (intOf i).toNat)
  case atStart => exact ⟨0, 0, Nat.zero_le _, rfl, rfl⟩
  case round =>
    obtain ⟨k, m, hk, rfl, rfl⟩ := hrel
    by_cases hlt : k < l.length + 8
    · have b1 : (0 : Int) ≤ (k : Int) := by omega
      have b2 : (k : Int) < (l.length : Int) + 8 := by omega
      by_cases hl : k < l.length
      · have h0 := HL.out.at_ k hl
        have b3 : (k : Int) < (l.length : Int) := by omega
        have hne : ((l[k].toNat : Int) != (l[k].toNat : Int)) = false := by simp
        have hne2 : ∀ hh, ((l[k].toNat : Int) != (((⟨l.toArray⟩ : ByteArray)[k]'hh).toNat : Int)) = false := fun hh => hne
        have b5 : decide ((k : Int) < (l.length : Int)) = true := by simp; omega
        have b6 : decide ((l.length : Int) ≤ (k : Int)) = false := by simp; omega
        have b7 : decide (l.length ≤ k) = false := by simp; omega
        go_wp2
        go_quiet (fail)
        go_wp2
        go_roundw
        case rel => exact ⟨k + 1, _, by omega, by go_num, rfl⟩
        case measure => simp [intOf]; omega
      · have h0 := HL.out.sp k (by omega) hlt
        have b3 : decide ((k : Int) < (l.length : Int)) = false := by simp; omega
        have b4 : decide ((l.length : Int) ≤ (k : Int)) = true := by simp; omega
        have b5 : decide (k < l.length) = false := by simp; omega
        have b6 : decide (l.length ≤ k) = true := by simp; omega
        have b7 : ((201 : Int) != 201) = false := rfl
        go_wp2
        go_quiet (fail)
        go_wp2
        go_roundw
        case rel => exact ⟨k + 1, _, by omega, by go_num, rfl⟩
        case measure => simp [intOf]; omega
    · go_wp2
      go_ret
      exact ⟨rfl, below_drewN (Below.refl _ _) _⟩

end Go.Proofs.YtolififimldmlaaGreat

set_option linter.unusedVariables false
set_option linter.unusedSimpArgs false
namespace Go.Proofs.YtolififimldmlaaGreat
open Go.RowKit
attribute [local go_sem ↓] Go.wp_at_zero Go.wp_at_succ

set_option maxRecDepth 100000 in
set_option maxHeartbeats 1000000 in
theorem sameLines_any (a b : Option Addr) (c d : Nat) (ls : List Ln) (w : World) (hn : ls.length ≤ 100000000) (ha : LinesAt w a ls) (hb : LinesAt w b ls) :
    Calls Tryz.prog 56 #[sla a ls.length c, sla b ls.length d] w fun e w' => e = .returned (.bool true) ∧ Below w.heap.size w w' := by
  have HA := hid ha
  have HB := hid hb
  clear ha hb
  unfold sla
  have hz : ((ls.length : Int) != (ls.length : Int)) = false := by simp
  go_enter Tryz.func56, Tryz.ntmps56
  go_wp2
  go_loopw [5] (fun i wr => ∃ (k m : Nat), k ≤ ls.length ∧ i = .int .i64 k ∧ wr = w.drewN m) (fun i _ => ls.length - (intOf i).toNat)
  case atStart => exact ⟨0, 0, Nat.zero_le _, rfl, rfl⟩
  case round =>
    obtain ⟨k, m, hk, rfl, rfl⟩ := hrel
    by_cases hlt : k < ls.length
    · have b1 : (0 : Int) ≤ (k : Int) := by omega
      have b2 : (k : Int) < (ls.length : Int) := by omega
      obtain ⟨g, o, rfl, h0, h1, h2⟩ := HA.out k hlt
      obtain ⟨g', o', rfl, h0', h1', h2'⟩ := HB.out k hlt
      generalize ls[k] = x at h0 h1 h2 h0' h1' h2'
      have hx : (x.s == x.s) = true := by simp
      go_wp2
      go_quiet (fail)
      go_wp2
      go_roundw
      case rel => exact ⟨k + 1, _, by omega, by go_num, rfl⟩
      case measure => simp [intOf]; omega
    · go_wp2
      go_ret
      exact ⟨rfl, below_drewN (Below.refl _ _) _⟩

set_option maxRecDepth 100000 in
set_option maxHeartbeats 1000000 in
theorem frame_any (f : Fr) (a : Option Addr) (cap : Nat) (w : World) (hl : LinesAt w a f.lines) (hn : f.lines.length ≤ 100000000) (hcap : f.lines.length ≤ cap) :
    Calls Tryz.prog 29 #[f.val a cap] w fun e w' => e = .returned (.string ⟨(packS f).toArray⟩) ∧ Below w.heap.size w w' := by
  have HP := hid (fun w1 (h : Below w.heap.size w w1) => refPack_any f a cap w1 (hl.below h) hn hcap)
  clear hl
  unfold Fr.val sla at HP ⊢
  go_enter Tryz.func29, Tryz.ntmps29
  go_wp2_with fail
  refine (HP.out _ ((Below.refl _ _).alloc (Nat.le_refl _) _)).mono ?_
  rintro e w1 ⟨rfl, hb1⟩
  go_wp2
  go_ret
  exact ⟨rfl, ((Below.refl _ _).alloc (Nat.le_refl _) _).trans (hb1.mono (by simp))⟩

end Go.Proofs.YtolififimldmlaaGreat

set_option linter.unusedVariables false
set_option linter.unusedSimpArgs false
namespace Go.Proofs.YtolififimldmlaaGreat
open Go.RowKit
attribute [local go_sem ↓] Go.wp_at_zero Go.wp_at_succ

/-- Bytes that a call has made itself. -/
structure OwnBytes (w w' : World) (g : Option Nat) (c : Nat) (l : List UInt8) : Prop where
  at_ : BytesAt w' g l
  own : OwnRow w' 5 1 g l.length c
  new : ∀ k, g = some k → w.heap.size ≤ k

/-- What the program's Pack must do. -/
def PackSaid : Prop := ∀ (f : Fr) (a : Option Addr) (cap : Nat) (w : World), LinesAt w a f.lines → f.lines.length ≤ 10000000 → f.lines.length ≤ cap →
  Calls Tryz.prog 15 #[f.val a cap] w fun e w' => ∃ g c, e = .returned (.tuple #[sl g (packS f).length c, .int .i64 (packE f)]) ∧ OwnBytes w w' g c (packS f) ∧ Below w.heap.size w w'

/-- What the program's Unpack must do. -/
def UnpackSaid : Prop := ∀ (g o cap : Nat) (l : List UInt8) (w : World), (∀ j (h : j < l.length), w.cell? ⟨g, o + j, none⟩ = some (.int .u8 l[j].toNat)) → l.length ≤ 10000000 → l.length ≤ cap →
  Calls Tryz.prog 16 #[.slice (some ⟨g, o, none⟩) l.length cap] w (RetFrame w l)

theorem OwnBytes.below {w x y : World} {g : Option Nat} {c : Nat} {l : List UInt8} (h : OwnBytes w x g c l) (hb : Below x.heap.size x y) : OwnBytes w y g c l :=
  ⟨fun j hj => by obtain ⟨k, e, hc⟩ := h.at_ j hj; exact ⟨k, e, (hb.cell (World.block_lt_of_cell? _ _ hc)).trans hc⟩, h.own.touch (T := fun _ => False) (Touch.of_belowAll hb _) (fun _ _ e => e), h.new⟩

theorem conv_bytes (g : Option Nat) (c : Nat) (l : List UInt8) (w : World) (h : BytesAt w g l) :
    (convert 31 9 (.slice (g.map fun k => ⟨k, 0, none⟩) l.length c)).run Tryz.prog w = .ok (.string ⟨l.toArray⟩) w := by
  cases g with
  | none =>
    have : l = [] := by
      cases l with
      | nil => rfl
      | cons x xs => obtain ⟨k, e, _⟩ := h 0 (by simp); cases e
    subst this
    exact run_convert_bytes_nil w 31 5 Tryz.underlying31 Tryz.underlying5 0 c 9 Tryz.underlying9
  | some k =>
    have := convN k l.length c (l.map fun b => (b.toNat : Int)) w (by simp) (fun i hi => by
      obtain ⟨k', e, hc⟩ := h i hi
      cases e
      rw [hc]; simp [List.getD, hi])
    rw [List.map_map, show (fun n : Int => UInt8.ofNat n.toNat) ∘ (fun b : UInt8 => (b.toNat : Int)) = id from by funext b; simp, List.map_id] at this
    exact this

/-- All cells of lines, one behind the other. -/
def lnCells (ls : List Ln) : List Value := ls.flatMap Ln.cells
theorem lnCells_len (ls : List Ln) : (lnCells ls).length = ls.length * 3 := by
  induction ls with
  | nil => rfl
  | cons a l ih =>
    unfold lnCells at *
    rw [List.flatMap_cons, List.length_append, ih, List.length_cons]
    simp only [Ln.cells, List.length_cons, List.length_nil]; omega
theorem lnCells_at (ls : List Ln) : ∀ (j r : Nat) (hj : j < ls.length), r < 3 → (lnCells ls)[j * 3 + r]? = (Ln.cells ls[j])[r]? := by
  induction ls with
  | nil => intro j r hj; exact absurd hj (by simp)
  | cons a l ih =>
    intro j r hj hr
    unfold lnCells at *
    rw [List.flatMap_cons]
    cases j with
    | zero => rw [List.getElem?_append_left (by simp [Ln.cells]; omega)]; simp
    | succ j =>
      rw [List.getElem?_append_right (by simp [Ln.cells]; omega)]
      have := ih j r (by simp at hj; omega) hr
      rw [show (j + 1) * 3 + r - (Ln.cells a).length = j * 3 + r from by simp [Ln.cells]; omega, this]
      simp
theorem lnCells_one (ls : List Ln) : ∀ u ∈ lnCells ls, u.oneCell' = true := by
  intro u hu
  unfold lnCells at hu
  obtain ⟨l, _, h⟩ := List.mem_flatMap.1 hu
  simp [Ln.cells] at h
  rcases h with rfl | rfl | rfl <;> rfl

theorem lines_src (a : Option Addr) (cap : Nat) (ls : List Ln) (w : World) (h : LinesAt w a ls) :
    Src Tryz.prog 3 28 (.slice a ls.length cap) ls.length (lnCells ls) w := by
  cases a with
  | none =>
    have : ls = [] := by
      cases ls with
      | nil => rfl
      | cons x xs => obtain ⟨g, o, e, _⟩ := h 0 (by simp); cases e
    subst this
    exact Src.ofNil w Tryz.underlying28 cap
  | some p =>
    refine Src.ofSlice w Tryz.underlying28 p ls.length cap _ (lnCells_len ls) (fun j u hu => ?_) (lnCells_one ls)
    have hl := lnCells_len ls
    have hj : j < ls.length * 3 := by
      rcases Nat.lt_or_ge j (ls.length * 3) with h | h
      · exact h
      · rw [List.getElem?_eq_none (by omega)] at hu; cases hu
    obtain ⟨g, o, e, h0, h1, h2⟩ := h (j / 3) (by omega)
    cases e
    rw [addr_add]
    have ej : j = j / 3 * 3 + j % 3 := by omega
    rw [ej] at hu ⊢
    rw [lnCells_at ls (j / 3) (j % 3) (by omega) (by omega)] at hu
    have h3 : j % 3 = 0 ∨ j % 3 = 1 ∨ j % 3 = 2 := by omega
    rcases h3 with e | e | e
    · rw [e] at hu ⊢; cases hu; exact h0
    · rw [e] at hu ⊢; cases hu; rw [← Nat.add_assoc]; exact h1
    · rw [e] at hu ⊢; cases hu; rw [← Nat.add_assoc]; exact h2

end Go.Proofs.YtolififimldmlaaGreat

set_option linter.unusedVariables false
set_option linter.unusedSimpArgs false
namespace Go.Proofs.YtolififimldmlaaGreat
open Go.RowKit
attribute [local go_sem ↓] Go.wp_at_zero Go.wp_at_succ

/-- Bytes lie there. -/
def BytesIn (w : World) (a : Option Addr) (l : List UInt8) : Prop :=
  ∀ j (h : j < l.length), ∃ g o, a = some ⟨g, o, none⟩ ∧ w.cell? ⟨g, o + j, none⟩ = some (.int .u8 l[j].toNat)

theorem wrap16 (n : Int) : IntKind.u16.wrap n = n % 65536 := by
  have : IntKind.u16.wrap n = n.emod 65536 := by simp [IntKind.wrap, IntKind.bits, IntKind.signed]; rfl
  exact this

set_option maxHeartbeats 400000 in
theorem sum_any (a : Option Addr) (cap : Nat) (l : List UInt8) (w : World) (hl : BytesIn w a l) (hn : l.length ≤ 100000000) :
    Calls Tryz.prog 117 #[sla a l.length cap] w fun e w' => e = .returned (.int .u16 (chk l : Int)) ∧ w' = w := by
  have HL := hid hl
  clear hl
  unfold sla
  go_enter Tryz.func117, Tryz.ntmps117
  go_wp2
  go_loop [3, 8] (fun n i => ∃ (k c : Nat), k ≤ l.length ∧ i = .int .i64 k ∧ n = .int .u16 c ∧ c < 65536 ∧ Hid (c = chk (l.take k))) (fun _ i => l.length - (intOf i).toNat)
  case atStart => exact ⟨0, 7, Nat.zero_le _, rfl, rfl, by omega, rfl⟩
  case round =>
    obtain ⟨k, c, hk, rfl, rfl, hc, hv⟩ := hrel
    by_cases hlt : k < l.length
    · obtain ⟨g, o, rfl, h0⟩ := HL.out k hlt
      have hb : (l[k].toNat : Int) < 256 := by have := l[k].toNat_lt; omega
      have hb0 : (0 : Int) ≤ (l[k].toNat : Int) := by omega
      have HC : Hid (((c : Int) * 31 + (l[k].toNat : Int)) % 65536 = (chk (l.take (k + 1)) : Int)) := by
        show _ = _; rw [hv.out]; exact chkInt l k hlt
      have HL2 : Hid (chk (l.take (k + 1)) < 65536) := chk_lt _
      go_wp2
      go_round
      case rel => exact ⟨k + 1, chk (l.take (k + 1)), by omega, by go_num, by rw [wrap16, wrap16, ← HC.out]; congr 1; omega, HL2.out, rfl⟩
      case measure => simp [intOf]; omega
    · go_wp2
      go_ret
      have e : k = l.length := by omega
      subst e
      have hv := hv.out
      rw [List.take_length] at hv
      exact ⟨ret_int (by rw [hv]), rfl⟩

end Go.Proofs.YtolififimldmlaaGreat

set_option linter.unusedVariables false
set_option linter.unusedSimpArgs false
namespace Go.Proofs.YtolififimldmlaaGreat
open Go.RowKit
attribute [local go_sem ↓] Go.wp_at_zero Go.wp_at_succ

/-- A row of bytes of the call's own has grown. -/
structure Grew (w w' : World) (b : Option Nat) (g c : Nat) (l : List UInt8) : Prop where
  at_ : BytesAt w' (some g) l
  own : OwnRow w' 5 1 (some g) l.length c
  touch : Touch (fun k => b = some k) w w'
  lies : b = some g ∨ w.heap.size ≤ g

theorem Grew.trans {w x y : World} {b : Option Nat} {g c g' c' : Nat} {l l' : List UInt8} (h : Grew w x b g c l) (k : Grew x y (some g) g' c' l') : Grew w y b g' c' l' :=
  ⟨k.at_, k.own, h.touch.trans k.touch (fun i hi e => by
    cases e
    rcases h.lies with e | e
    · exact e
    · omega), by
    rcases k.lies with e | e
    · cases e; exact h.lies
    · exact .inr (Nat.le_trans h.touch.size e)⟩

theorem BytesAt.touch {T : Nat → Prop} {w w' : World} {g : Option Nat} {l : List UInt8} (h : BytesAt w g l) (ht : Touch T w w') (hn : ∀ k, g = some k → ¬ T k) : BytesAt w' g l := fun j hj => by
  obtain ⟨k, e, hc⟩ := h j hj
  exact ⟨k, e, ht.cell hc (hn k e)⟩
theorem BytesAt.in_ {w : World} {g : Nat} {l : List UInt8} (h : BytesAt w (some g) l) : BytesIn w (some ⟨g, 0, none⟩) l := fun j hj => by
  obtain ⟨k, e, hc⟩ := h j hj
  cases e
  exact ⟨g, 0, rfl, by rw [Nat.zero_add]; exact hc⟩

def u8cells (l : List UInt8) : List Value := l.map fun b => .int .u8 b.toNat
theorem u8cells_len (l : List UInt8) : (u8cells l).length = l.length := by simp [u8cells]
theorem u8cells_one (l : List UInt8) : ∀ u ∈ u8cells l, u.oneCell' = true := by
  intro u hu
  obtain ⟨b, _, rfl⟩ := List.mem_map.1 hu
  rfl
theorem u8cells_at (l : List UInt8) (j : Nat) (h : j < l.length) : (u8cells l)[j]? = some (.int .u8 l[j].toNat) := by simp [u8cells, h]

/-- Bytes behind bytes. -/
theorem Grew.app {w x y : World} {b : Option Nat} {g c n m g' c' : Nat} {l l2 : List UInt8} {news : List Value} (h : Grew w x b g c l) (P : AppPost x y 5 1 (some g) n m news g' c') (hn : l.length = n) (hm : l2.length = m) (hnew : news = u8cells l2) :
    Grew w y b g' c' (l ++ l2) := by
  subst hnew
  subst hn
  subst hm
  refine h.trans ⟨fun j hj => ?_, by rw [List.length_append]; exact P.own, P.touch, P.lies⟩
  refine ⟨g', rfl, ?_⟩
  rcases Nat.lt_or_ge j l.length with hlt | hge
  · obtain ⟨k, e, hc⟩ := h.at_ j hlt
    cases e
    rw [List.getElem_append_left hlt, P.old j (by omega) g rfl]; exact hc
  · rw [List.length_append] at hj
    have := P.new (j - l.length) (by omega)
    rw [show l.length * 1 + (j - l.length) = j from by omega] at this
    rw [this, u8cells_at _ _ (by omega), List.getElem_append_right hge]

theorem Grew.refl {w : World} {g c : Nat} {l : List UInt8} (h : BytesAt w (some g) l) (ho : OwnRow w 5 1 (some g) l.length c) : Grew w w (some g) g c l :=
  ⟨h, ho, Touch.refl _ _, .inl rfl⟩
theorem Grew.below {w x y : World} {b : Option Nat} {g c : Nat} {l : List UInt8} (h : Grew w x b g c l) (hb : Below x.heap.size x y) : Grew w y b g c l :=
  ⟨h.at_.touch (T := fun _ => False) (Touch.of_belowAll hb _) (fun _ _ e => e), h.own.touch (T := fun _ => False) (Touch.of_belowAll hb _) (fun _ _ e => e), h.touch.trans (T' := fun _ => False) (Touch.of_belowAll hb _) (fun _ _ e => e.elim), h.lies⟩
theorem Grew.alloc {w x : World} {b : Option Nat} {g c : Nat} {l : List UInt8} (h : Grew w x b g c l) (o : Obj) : Grew w (x.alloc o) b g c l := h.below ((Below.refl _ _).alloc (Nat.le_refl _) _)
theorem Grew.drew {w x : World} {b : Option Nat} {g c : Nat} {l : List UInt8} (h : Grew w x b g c l) : Grew w x.drew b g c l := h.below ((Below.refl _ _).drew)

theorem byteCells_u8 (l : List UInt8) : byteCells ⟨l.toArray⟩ = u8cells l := by simp [byteCells, u8cells]
theorem byteOf_cell (n : Int) : (((byteOf n).toNat : Nat) : Int) = n % 256 := by
  unfold byteOf
  have : (n % 256).toNat < 256 := by omega
  rw [UInt8.toNat_ofNat', Nat.mod_eq_of_lt (by omega)]; omega

end Go.Proofs.YtolififimldmlaaGreat

set_option linter.unusedVariables false
set_option linter.unusedSimpArgs false
namespace Go.Proofs.YtolififimldmlaaGreat
open Go.RowKit
attribute [local go_sem ↓] Go.wp_at_zero Go.wp_at_succ

theorem Grew.own' {w x : World} {b : Option Nat} {g c n : Nat} {l : List UInt8} (h : Grew w x b g c l) (hn : l.length = n) : OwnRow x 5 1 (some g) n c := by subst hn; exact h.own

set_option maxRecDepth 100000 in
set_option maxHeartbeats 1000000 in
theorem appendLine_any (g c : Nat) (l : List UInt8) (x : Ln) (w : World) (hat : BytesAt w (some g) l) (hown : OwnRow w 5 1 (some g) l.length c) (hn : l.length ≤ 100000000) (hx : x.s.length ≤ 100000000) :
    Calls Tryz.prog 70 #[.slice (some ⟨g, 0, none⟩) l.length c, .agg #[.int .i64 x.c, .int .i64 x.t, .string ⟨x.s.toArray⟩]] w fun e w' =>
      ∃ g' c', e = .returned (.slice (some ⟨g', 0, none⟩) (l ++ lineBytes x).length c') ∧ Grew w w' (some g) g' c' (l ++ lineBytes x) := by
  obtain ⟨xc, xt, xs⟩ := x
  dsimp only at *
  obtain ⟨ib, hib, hib0, hib1, hib2⟩ := info_parts Tryz.info5
  have HG := hid (((Grew.refl hat hown).alloc (.cells #[.int .i64 xc, .int .i64 xt, .string ⟨xs.toArray⟩] 27)).alloc (.cells #[.int .u8 (xc % 256), .int .u8 (xt % 256), .int .u8 ((xs.length : Int) % 256)] 5))
  have hsz : w.heap.size ≠ g := by
    rcases hown with ⟨h, _⟩ | ⟨g0, cur, h, hg, _⟩
    · cases h
    · cases h; have := heap_lt hg; omega
  clear hat hown
  go_enter Tryz.func70, Tryz.ntmps70
  go_wp2_with (at_builtin; refine wpList_appS _ rfl (.tmp 5) (.tmp 16) 31 31 rfl 5 ib (.int .u8 0) 1 1 Tryz.underlying31 hib hib0 hib1 hib2 rfl g l.length c (by rfl) HG.out.own _ rfl 3 [.int .u8 (xc % 256), .int .u8 (xt % 256), .int .u8 ((xs.length : Int) % 256)] (Src.ofSlice _ Tryz.underlying31 ⟨w.heap.size + 1, 0, none⟩ 3 3 _ rfl ?c1 ?c2) (by omega) (by omega) ?_)
  case c1 =>
    have := World.news_of_block (heap_alloc_new (w.alloc (.cells #[.int .i64 xc, .int .i64 xt, .string ⟨xs.toArray⟩] 27)) (.cells #[.int .u8 (xc % 256), .int .u8 (xt % 256), .int .u8 ((xs.length : Int) % 256)] 5))
    rw [World.size_alloc] at this
    exact this
  case c2 => intro u hu; simp at hu; rcases hu with rfl | rfl | rfl <;> rfl
  intro g1 c1 w1 P1
  have HG1 := hid (HG.out.app (l2 := [byteOf xc, byteOf xt, byteOf xs.length]) P1 rfl rfl (by simp [u8cells, byteOf_cell]))
  have y2 : w1.cell? ⟨w.heap.size, 2, none⟩ = some (.string ⟨xs.toArray⟩) := by
    rw [P1.keep _ _ (by simp; omega) (fun e => hsz (by have := Option.some.inj e.1; omega))]
    rw [World.cell?_alloc_past _ _ _ (by simp)]
    exact World.cell?_alloc_new _ _ _ _
  clear P1
  go_wp2_with (at_builtin; refine wpList_appS _ rfl (.tmp 18) (.tmp 20) 31 9 rfl 5 ib (.int .u8 0) 1 1 Tryz.underlying31 hib hib0 hib1 hib2 rfl g1 (l.length + 3) c1 (by rfl) (HG1.out.own' (by simp)) _ rfl xs.length (byteCells ⟨xs.toArray⟩) (Src.ofString _ Tryz.underlying9 ⟨xs.toArray⟩) (by omega) (by omega) ?_)
  intro g2 c2 w2 P2
  have HG2 := hid (HG1.out.app (l2 := xs) P2 (by simp) rfl (byteCells_u8 xs))
  clear P2
  go_wp2
  go_ret
  refine ⟨g2, c2, ?_, ?_⟩
  · simp [lineBytes]; omega
  · have := HG2.out
    rw [List.append_assoc] at this
    exact this

end Go.Proofs.YtolififimldmlaaGreat
