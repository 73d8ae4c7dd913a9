import Derived.Test.YtolififimldmlaaGreatPart04
import Derived.Deep.AppendSrc
set_option linter.unusedVariables false
set_option linter.unusedSimpArgs false
namespace Go.Proofs.YtolififimldmlaaGreat
open Go.RowKit

/-- Bytes lie at a row's head. -/
def BytesAt (w : World) (g : Option Nat) (l : List UInt8) : Prop := ∀ j (h : j < l.length), ∃ k, g = some k ∧ w.cell? ⟨k, j, none⟩ = some (.int .u8 l[j].toNat)


section
variable {P : Program} (w : World)

/-- 'append' to a row of one's own that is not nil, of whatever is appended. -/
theorem run_appS (t tx ty : TypeId) (e : TypeId) (i : TypeInfo) (z : Value) (size bytes : Nat) (ht : P.underlying t = some (.slice e)) (hi : P.info? e = some i) (hz : i.zero = some z)
    (hsize : i.size = size) (hby : i.bytes = bytes) (hzs : z.cells.size = size)
    (g n c : Nat) (hown : OwnRow w e size (some g) n c) (x : Value) (m : Nat) (news : List Value) (hs : Src P size tx x m news w)
    (hbytes : (n + m) * bytes ≤ 140737488355328) (h63 : n + m ≤ 140737488355328) :
    ∃ g' c' w', (Builtin.append_ #[t, tx] ty #[.slice (some ⟨g, 0, none⟩) n c, x]).run P w = .ok (.slice (some ⟨g', 0, none⟩) (n + m) c') w' ∧ AppPost w w' e size (some g) n m news g' c' := by
  subst hsize
  subst hby
  have hmx : n + m ≤ maxLen := by simp only [maxLen]; omega
  have hl := hs.newsLen
  rcases hown with ⟨h, _⟩ | ⟨g0, cur, h, hg, hcs, hnc, hcm⟩
  · cases h
  cases h
  by_cases hroom : n + m ≤ c
  · have hns : n * i.size + news.length = (n + m) * i.size := by rw [hl, ← Nat.add_mul]
    have hfit : n * i.size + news.length ≤ cur.size := by rw [hns, hcs]; exact Nat.mul_le_mul_right _ hroom
    have hst := run_storeCells_at P g (n * i.size) e news 0 cur w hg (by simpa using hfit) hs.one
    simp only [Nat.add_zero] at hst
    have hr : (Builtin.append_ #[t, tx] ty #[.slice (some ⟨g, 0, none⟩) n c, x]).run P w = .ok (.slice (some ⟨g, 0, none⟩) (n + m) c) (w.setRow g (cur.toList.take (n * i.size) ++ news ++ cur.toList.drop (n * i.size + news.length)).toArray) := by
      rcases hs.kind with ⟨e', hk⟩ | hk <;> simp [Builtin.append_, run_underlying ht, run_underlying hk, sizeOf, typeInfo, hi, hs.len, hroom, hs.cells, Addr.add_lit, hst]
    have hsr := setRow_heap w g cur (cur.toList.take (n * i.size) ++ news ++ cur.toList.drop (n * i.size + news.length)).toArray e (0, 0) hg
    have htl : (cur.toList.take (n * i.size)).length = n * i.size := by rw [List.length_take, Array.length_toList]; omega
    have hold : ∀ j, j < n * i.size → (cur.toList.take (n * i.size) ++ news ++ cur.toList.drop (n * i.size + news.length)).toArray[j]? = cur[j]? := fun j hj => by
      simp only [List.getElem?_toArray]
      rw [List.getElem?_append_left (by simp only [List.length_append, htl]; omega), List.getElem?_append_left (by omega), List.getElem?_take_of_lt hj, Array.getElem?_toList]
    refine ⟨g, c, _, hr, ⟨.inr ⟨g, _, rfl, hsr, ?_, hroom, hcm⟩, fun j hj => ?_, fun j hj k hk => ?_, fun k j hk hn => ?_, ⟨rfl, rfl, rfl, by simp [World.setRow], fun k _ hk => setRow_other w g k _ (fun e => hk (by rw [e]))⟩, .inl rfl⟩⟩
    · simp only [List.size_toArray, List.length_append, List.length_drop, htl, Array.length_toList]; omega
    · rw [cell_of_heap hsr]
      simp only [List.getElem?_toArray]
      rw [List.getElem?_append_left (by simp only [List.length_append, htl]; omega), List.getElem?_append_right (by omega), htl]
      congr 1; omega
    · cases hk
      rw [cell_of_heap hsr, cell_of_heap hg]; exact hold j hj
    · by_cases hkg : k = g
      · subst hkg
        rw [cell_of_heap hsr, cell_of_heap hg]; exact hold j (by rcases Nat.lt_or_ge j (n * i.size) with h | h; exact h; exact absurd ⟨rfl, h⟩ hn)
      · exact World.cell?_of_block (setRow_other w g k _ hkg)
  · have hxl : (cur.toList.take (n * i.size)).length = n * i.size := by
      rw [List.length_take, Array.length_toList, hcs]; have := Nat.mul_le_mul_right i.size hnc; omega
    have hxs : ∀ j, j < n * i.size → (cur.toList.take (n * i.size))[j]? = w.cell? ⟨g, j, none⟩ := fun j hj => by
      rw [cell_of_heap hg, List.getElem?_take_of_lt hj, Array.getElem?_toList]
    have holds : ∀ j u, (cur.toList.take (n * i.size))[j]? = some u → w.drew.cell? ((⟨g, 0, none⟩ : Addr).add j) = some u := fun j u hu => by
      have hj : j < n * i.size := by
        rcases Nat.lt_or_ge j (n * i.size) with h | h
        · exact h
        · rw [List.getElem?_eq_none (by omega)] at hu; cases hu
      rw [addr_add, Nat.zero_add]
      exact (hxs j hj).symm.trans hu
    have hf := run_firstCells_some (P := P) w.drew i.size n ⟨g, 0, none⟩ n c _ hxl holds
    have hr := run_append_grow_src (P := P) w t tx ty e i z ht hi hz (some ⟨g, 0, none⟩) n c _ hf x m news hs (by omega) (by omega) (growslice_fits (by omega) hbytes)
    have hge := grownCap_ge w (n + m) c e
    have hcm : grownCap w (n + m) c e ≤ maxLen := grownCap_le_maxLen w (n + m) c e hmx
    have hnew := heap_alloc_new w.drew (.cells (((cur.toList.take (n * i.size)) ++ news).toArray ++ Builtin.zeroCells z.cells (grownCap w (n + m) c e - (n + m))) e)
    refine ⟨_, _, _, hr, ⟨.inr ⟨_, _, rfl, hnew, ?_, hge, hcm⟩, fun j hj => ?_, fun j hj k hk => ?_, fun k j hk _ => ?_, ((Touch.refl _ w).drew).alloc _, .inr (Nat.le_refl _)⟩⟩
    · simp only [Array.size_append, List.size_toArray, List.length_append, size_zeroCells, hzs, hxl, hl, ← Nat.add_mul]
      congr 1
      omega
    · have h0 := cell_of_heap hnew (n * i.size + j)
      refine h0.trans ?_
      rw [Array.getElem?_append_left (by rw [List.size_toArray, List.length_append, hxl]; omega), List.getElem?_toArray, List.getElem?_append_right (by omega), hxl]
      congr 1; omega
    · have h0 := cell_of_heap hnew j
      refine h0.trans ?_
      rw [Array.getElem?_append_left (by rw [List.size_toArray, List.length_append, hxl]; omega), List.getElem?_toArray, List.getElem?_append_left (by omega)]
      cases hk
      exact hxs j hj
    · exact World.cell?_alloc_past (w := w.drew) _ _ _ hk

theorem wp_appS {o : Oper} {a : Act} {K : Act → World → Prop} {Q : Exit → Act → World → Prop} (s y : Operand) (t tx : TypeId)
    (ho : o.op = .call { callee := .builtin .append, args := #[s, y], argTypes := #[t, tx] })
    (e : TypeId) (i : TypeInfo) (z : Value) (size bytes : Nat) (ht : P.underlying t = some (.slice e)) (hi : P.info? e = some i) (hz : i.zero = some z)
    (hsize : i.size = size) (hby : i.bytes = bytes) (hzs : z.cells.size = size)
    (g n c : Nat) (hq : a.eval s = .slice (some ⟨g, 0, none⟩) n c) (hown : OwnRow w e size (some g) n c)
    (x : Value) (hx : a.eval y = x) (m : Nat) (news : List Value) (hs : Src P size tx x m news w)
    (hbytes : (n + m) * bytes ≤ 140737488355328) (h63 : n + m ≤ 140737488355328)
    (h : ∀ g' c' w', AppPost w w' e size (some g) n m news g' c' → K (a.put o.dst (.slice (some ⟨g', 0, none⟩) (n + m) c')) w') : o.wp P a w K Q := by
  obtain ⟨g', c', w', hr, h2⟩ := run_appS (P := P) w t tx o.type e i z size bytes ht hi hz hsize hby hzs g n c hown x m news hs hbytes h63
  unfold Oper.wp execOp
  simp only [ho, resolve, invoke, builtin, Sem.run_bind, Sem.run_pure, Result.andThen_ok, List.map_toArray, List.map_cons, List.map_nil, hq, hx, hr]
  exact h g' c' w' h2

theorem wpList_appS {ops : Array Oper} {rest : List Oper} {o : Oper} {a : Act} {Q : Exit → Act → World → Prop} (hgd : o.guard = none) (s y : Operand) (t tx : TypeId)
    (ho : o.op = .call { callee := .builtin .append, args := #[s, y], argTypes := #[t, tx] })
    (e : TypeId) (i : TypeInfo) (z : Value) (size bytes : Nat) (ht : P.underlying t = some (.slice e)) (hi : P.info? e = some i) (hz : i.zero = some z)
    (hsize : i.size = size) (hby : i.bytes = bytes) (hzs : z.cells.size = size)
    (g n c : Nat) (hq : a.eval s = .slice (some ⟨g, 0, none⟩) n c) (hown : OwnRow w e size (some g) n c)
    (x : Value) (hx : a.eval y = x) (m : Nat) (news : List Value) (hs : Src P size tx x m news w)
    (hbytes : (n + m) * bytes ≤ 140737488355328) (h63 : n + m ≤ 140737488355328)
    (h : ∀ g' c' w', AppPost w w' e size (some g) n m news g' c' → wpList P ops Q rest (a.put o.dst (.slice (some ⟨g', 0, none⟩) (n + m) c')) w') : wpList P ops Q (o :: rest) a w :=
  wpList_plain hgd fun _ hK => wp_appS w s y t tx ho e i z size bytes ht hi hz hsize hby hzs g n c hq hown x hx m news hs hbytes h63 fun g' c' w' h2 => hK _ _ (h g' c' w' h2)

end
end Go.Proofs.YtolififimldmlaaGreat

set_option linter.unusedVariables false
set_option linter.unusedSimpArgs false
namespace Go.Proofs.YtolififimldmlaaGreat
open Go.RowKit

/-- What an append to nil leaves: a row of one's own. -/
structure NilPost (w w' : World) (e : TypeId) (size : Nat) (m : Nat) (news : List Value) (b : Option Nat) (c : Nat) : Prop where
  own : OwnRow w' e size b m c
  new : ∀ j, j < m * size → ∃ g, b = some g ∧ w'.cell? ⟨g, j, none⟩ = news[j]?
  fresh : ∀ g, b = some g → w.heap.size ≤ g
  below : Below w.heap.size w w'

section
variable {P : Program} (w : World)

theorem run_appN (t tx ty : TypeId) (e : TypeId) (i : TypeInfo) (z : Value) (size bytes : Nat) (ht : P.underlying t = some (.slice e)) (hi : P.info? e = some i) (hz : i.zero = some z)
    (hsize : i.size = size) (hby : i.bytes = bytes) (hzs : z.cells.size = size) (x : Value) (m : Nat) (news : List Value) (hs : Src P size tx x m news w)
    (hbytes : m * bytes ≤ 140737488355328) (h63 : m ≤ 140737488355328) :
    ∃ b c w', (Builtin.append_ #[t, tx] ty #[.slice none 0 0, x]).run P w = .ok (sl b m c) w' ∧ NilPost w w' e size m news b c := by
  subst hsize
  subst hby
  have hl := hs.newsLen
  rcases Nat.eq_zero_or_pos m with hm | hm
  · subst hm
    have hn0 : news = [] := by cases news with | nil => rfl | cons a l => simp at hl
    subst hn0
    refine ⟨none, 0, w, ?_, ⟨.inl ⟨rfl, rfl, rfl⟩, fun j hj => (by omega), fun g e => (by cases e), Below.refl _ _⟩⟩
    rcases hs.kind with ⟨e', hk⟩ | hk <;> simp [Builtin.append_, run_underlying ht, run_underlying hk, sizeOf, typeInfo, hi, hs.len, hs.cells, storeCells, sl]
  · have hmx : m ≤ maxLen := by simp only [maxLen]; omega
    have hr := run_append_grow_src (P := P) w t tx ty e i z ht hi hz none 0 0 [] (run_firstCells_none w.drew i.size 0 0 0) x m news hs (by omega) (by omega) (growslice_fits (by omega) (by simpa using hbytes))
    simp only [Nat.zero_add, List.nil_append] at hr
    have hge := grownCap_ge w m 0 e
    have hcm : grownCap w m 0 e ≤ maxLen := grownCap_le_maxLen w m 0 e hmx
    have hnew := heap_alloc_new w.drew (.cells (news.toArray ++ Builtin.zeroCells z.cells (grownCap w m 0 e - m)) e)
    refine ⟨some w.heap.size, _, _, hr, ⟨.inr ⟨_, _, rfl, hnew, ?_, hge, hcm⟩, fun j hj => ⟨_, rfl, ?_⟩, fun g e => (by cases e; exact Nat.le_refl _), ((Below.refl _ w).drew).alloc (Nat.le_refl _) _⟩⟩
    · simp only [Array.size_append, List.size_toArray, size_zeroCells, hzs, hl, ← Nat.add_mul]
      congr 1
      omega
    · have h0 := cell_of_heap hnew j
      refine h0.trans ?_
      rw [Array.getElem?_append_left (by rw [List.size_toArray]; omega), List.getElem?_toArray]

theorem wpList_appN {ops : Array Oper} {rest : List Oper} {o : Oper} {a : Act} {Q : Exit → Act → World → Prop} (hgd : o.guard = none) (s y : Operand) (t tx : TypeId)
    (ho : o.op = .call { callee := .builtin .append, args := #[s, y], argTypes := #[t, tx] })
    (e : TypeId) (i : TypeInfo) (z : Value) (size bytes : Nat) (ht : P.underlying t = some (.slice e)) (hi : P.info? e = some i) (hz : i.zero = some z)
    (hsize : i.size = size) (hby : i.bytes = bytes) (hzs : z.cells.size = size)
    (hq : a.eval s = .slice none 0 0) (x : Value) (hx : a.eval y = x) (m : Nat) (news : List Value) (hs : Src P size tx x m news w)
    (hbytes : m * bytes ≤ 140737488355328) (h63 : m ≤ 140737488355328)
    (h : ∀ b c w', NilPost w w' e size m news b c → wpList P ops Q rest (a.put o.dst (sl b m c)) w') : wpList P ops Q (o :: rest) a w := by
  refine wpList_plain hgd fun _ hK => ?_
  obtain ⟨b, c, w', hr, h2⟩ := run_appN (P := P) w t tx o.type e i z size bytes ht hi hz hsize hby hzs x m news hs hbytes h63
  unfold Oper.wp execOp
  simp only [ho, resolve, invoke, builtin, Sem.run_bind, Sem.run_pure, Result.andThen_ok, List.map_toArray, List.map_cons, List.map_nil, hq, hx, hr]
  exact hK _ _ (h b c w' h2)

end
end Go.Proofs.YtolififimldmlaaGreat
