import Derived.Test.YtolififimldmlaaGreatRefI
import Derived.Test.YtolififimldmlaaGreatKeepWalk
import Derived.Deep.AppendSrc
set_option linter.unusedVariables false
set_option linter.unusedSimpArgs false
namespace Go.Proofs.YtolififimldmlaaGreat
open Go.RowKit
attribute [local go_sem ↓] Go.wp_at_zero Go.wp_at_succ

/-- 'copy' to the head of a row of one's own, of all that the source has. -/
theorem run_cpy {P : Program} (w : World) (dT sT ty e : TypeId) (i : TypeInfo) (hu : P.underlying dT = some (.slice e)) (hi : P.info? e = some i) (g dLen dCap : Nat) (cur : Array Value) (t : TypeId) (hg : w.heap[g]? = some (.cells cur t (0, 0)))
    (x : Value) (n : Nat) (news : List Value) (hs : Src P i.size sT x n news w) (hn : n ≤ dLen) (hfit : news.length ≤ cur.size) :
    (Builtin.copy_ #[dT, sT] ty #[.slice (some ⟨g, 0, none⟩) dLen dCap, x]).run P w = .ok (goInt n) (w.setRow g (news ++ cur.toList.drop news.length).toArray) := by
  have hst := run_storeCells_at P g 0 t news 0 cur w hg (by simpa using hfit) hs.one
  simp only [Nat.add_zero, Nat.zero_add, List.take_zero, List.nil_append] at hst
  simp [Builtin.copy_, run_underlying hu, sizeOf, typeInfo, hi, hs.len, Nat.min_eq_left hn, hs.cells, hst]

theorem wpList_cpy {P : Program} (w : World) {ops : Array Oper} {rest : List Oper} {o : Oper} {a : Act} {Q : Exit → Act → World → Prop} (hgd : o.guard = none) (d s : Operand) (dT sT : TypeId)
    (ho : o.op = .call { callee := .builtin .copy, args := #[d, s], argTypes := #[dT, sT] }) (e : TypeId) (i : TypeInfo) (hu : P.underlying dT = some (.slice e)) (hi : P.info? e = some i) (g dLen dCap : Nat) (cur : Array Value) (t : TypeId)
    (hg : w.heap[g]? = some (.cells cur t (0, 0))) (hd : a.eval d = .slice (some ⟨g, 0, none⟩) dLen dCap) (x : Value) (hx : a.eval s = x) (n : Nat) (news : List Value) (hs : Src P i.size sT x n news w) (hn : n ≤ dLen) (hfit : news.length ≤ cur.size)
    (h : wpList P ops Q rest (a.put o.dst (goInt n)) (w.setRow g (news ++ cur.toList.drop news.length).toArray)) : wpList P ops Q (o :: rest) a w := by
  refine wpList_plain hgd fun K hK => ?_
  have hrun := run_cpy (P := P) w dT sT o.type e i hu hi g dLen dCap cur t hg x n news hs hn hfit
  unfold Oper.wp
  simp [execOp, ho, resolve, invoke, builtin, hd, hx, hrun, Result.andThen]
  exact hK _ _ h

/-- Bytes lie at a block's head, and behind them eight places of spare room. -/
structure Lent (w : World) (g : Nat) (l : List UInt8) : Prop where
  own : OwnRow w 5 1 (some g) (l.length + 8) (l.length + 8)
  at_ : ∀ j, (h : j < l.length) → w.cell? ⟨g, j, none⟩ = some (.int .u8 l[j].toNat)
  sp : ∀ j, l.length ≤ j → j < l.length + 8 → w.cell? ⟨g, j, none⟩ = some (.int .u8 201)

theorem Lent.touch {T : Nat → Prop} {w w' : World} {g : Nat} {l : List UInt8} (h : Lent w g l) (ht : Touch T w w') (hn : ¬ T g) : Lent w' g l :=
  ⟨h.own.touch ht (fun k e => by cases e; exact hn), fun j hj => ht.cell (h.at_ j hj) hn, fun j h1 h2 => ht.cell (h.sp j h1 h2) hn⟩
theorem Lent.below {w w' : World} {g : Nat} {l : List UInt8} (h : Lent w g l) (hb : Below w.heap.size w w') : Lent w' g l := h.touch (T := fun _ => False) (Touch.of_belowAll hb _) (fun e => e)

set_option maxRecDepth 100000 in
set_option maxHeartbeats 1000000 in
theorem lent_any (l : List UInt8) (w : World) (hn : l.length ≤ 10000000) :
    Calls Tryz.prog 62 #[.string ⟨l.toArray⟩] w fun e w' => e = .returned (.slice (some ⟨w.heap.size, 0, none⟩) (l.length + 8) (l.length + 8)) ∧ Lent w' w.heap.size l ∧ Below w.heap.size w w' := by
  obtain ⟨ib, hib, hib0, hib1, hib2⟩ := info_parts Tryz.info5
  have hmk := fun (w : World) => run_make (P := Tryz.prog) w 31 5 ib (.int .u8 0) Tryz.underlying31 hib hib0 .i64 .i64 ((l.length : Int) + 8) ((l.length : Int) + 8) (by omega) (by omega) (by rw [hib2]; omega) (by omega)
  simp only [hib1, show ((l.length : Int) + 8).toNat = l.length + 8 from by omega, Nat.mul_one] at hmk
  have hg : (w.alloc (.cells (madeCells #[.int .u8 0] (l.length + 8)) 5)).heap[w.heap.size]? = some (.cells (madeCells #[.int .u8 0] (l.length + 8)) 5 (0, 0)) := heap_alloc_new w _
  have hsz : (madeCells #[.int .u8 0] (l.length + 8)).size = l.length + 8 := size_madeCells _ _
  have hcp := fun ty => run_cpy (P := Tryz.prog) (w.alloc (.cells (madeCells #[.int .u8 0] (l.length + 8)) 5)) 31 9 ty 5 ib Tryz.underlying31 hib w.heap.size (l.length + 8) (l.length + 8) _ 5 hg (.string ⟨l.toArray⟩) _ _ (by rw [hib1]; exact Src.ofString _ Tryz.underlying9 ⟨l.toArray⟩) (by show l.length ≤ _; omega) (by rw [byteCells_length, hsz]; show l.length ≤ _; omega)
  have hss : (⟨l.toArray⟩ : ByteArray).size = l.length := rfl
  rw [hss] at hcp
  have HG := hid hg
  have HSZ := hid hsz
  clear hg hsz hss
  go_enter Tryz.func62, Tryz.ntmps62
  have HC : Hid (∀ W : World, W = (w.alloc (.cells (madeCells #[.int .u8 0] (l.length + 8)) 5)).setRow w.heap.size (byteCells ⟨l.toArray⟩ ++ List.drop (byteCells ⟨l.toArray⟩).length (madeCells #[.int .u8 0] (l.length + 8)).toList).toArray →
      OwnRow W 5 1 (some w.heap.size) (l.length + 8) (l.length + 8) ∧ (∀ j, (h : j < l.length) → W.cell? ⟨w.heap.size, j, none⟩ = some (.int .u8 l[j].toNat)) ∧ Below w.heap.size w W) := fun W hW => by
    have hbl : (byteCells ⟨l.toArray⟩).length = l.length := byteCells_length _
    have hr := setRow_heap _ w.heap.size _ (byteCells ⟨l.toArray⟩ ++ List.drop (byteCells ⟨l.toArray⟩).length (madeCells #[.int .u8 0] (l.length + 8)).toList).toArray 5 (0, 0) HG.out
    rw [← hW] at hr
    have hsz := HSZ.out
    refine ⟨.inr ⟨_, _, rfl, hr, ?_, Nat.le_refl _, by simp only [maxLen]; omega⟩, fun j hj => ?_, ?_⟩
    · simp only [List.size_toArray, List.length_append, List.length_drop, Array.length_toList, hbl, hsz]; omega
    · rw [cell_of_heap hr]
      simp only [List.getElem?_toArray]
      rw [List.getElem?_append_left (by omega)]
      simp [byteCells, List.getElem?_eq_getElem hj]
    · rw [hW]; exact below_setRow ((Below.refl _ _).alloc (Nat.le_refl _) _) (Nat.le_refl _) _
  go_wp2
  obtain ⟨W1, hW1⟩ : ∃ W1, W1 = (w.alloc (.cells (madeCells #[.int .u8 0] (l.length + 8)) 5)).setRow w.heap.size (byteCells ⟨l.toArray⟩ ++ List.drop (byteCells ⟨l.toArray⟩).length (madeCells #[.int .u8 0] (l.length + 8)).toList).toArray := ⟨_, rfl⟩
  have HF := hid (HC.out W1 hW1)
  rw [← hW1]
  clear hW1 HC HG HSZ hcp hmk
  go_loopw [4] (fun i wr => ∃ k : Nat, l.length ≤ k ∧ k ≤ l.length + 8 ∧ i = .int .i64 k ∧ Hid (OwnRow wr 5 1 (some w.heap.size) (l.length + 8) (l.length + 8) ∧ (∀ j, (h : j < l.length) → wr.cell? ⟨w.heap.size, j, none⟩ = some (.int .u8 l[j].toNat)) ∧
      (∀ j, l.length ≤ j → j < k → wr.cell? ⟨w.heap.size, j, none⟩ = some (.int .u8 201)) ∧ Below w.heap.size w wr)) (fun i _ => l.length + 8 - (intOf i).toNat)
  case atStart => exact ⟨l.length, Nat.le_refl _, by omega, rfl, HF.out.1, HF.out.2.1, fun j h1 h2 => by omega, HF.out.2.2⟩
  case round =>
    obtain ⟨k, hk1, hk2, rfl, HI⟩ := hrel
    by_cases hlt : k < l.length + 8
    · obtain ⟨v0, dg, df⟩ := ownRow_cell (j := k) HI.out.1 (by omega)
      go_wp2
      go_roundw
      case rel =>
        obtain ⟨a1, a2, a3, a4⟩ := HI.out
        refine ⟨k + 1, by omega, by omega, by go_num, a1.set _ _, fun j hj => ?_, fun j h1 h2 => ?_, a4.setCell (Nat.le_refl _) _⟩
        · rw [cell_set_ne _ (by omega)]; exact a2 j hj
        · by_cases e : j = k
          · subst e; exact cell_set_same _ dg
          · rw [cell_set_ne _ (by omega)]; exact a3 j h1 (by omega)
      case measure => simp [intOf]; omega
    · go_wp2
      go_ret
      obtain ⟨a1, a2, a3, a4⟩ := HI.out
      exact ⟨rfl, ⟨a1, a2, fun j h1 h2 => a3 j h1 (by omega)⟩, a4⟩


end Go.Proofs.YtolififimldmlaaGreat
