import Derived.Test.YtolififimldmlaaGreatPart03
set_option linter.unusedVariables false
set_option linter.unusedSimpArgs false
namespace Go.Proofs.YtolififimldmlaaGreat
open Go.RowKit

/-- What an append to a row of one's own leaves: old cells are kept, but for the spare room behind the row. -/
structure AppPost (w w' : World) (e : TypeId) (size : Nat) (b : Option Nat) (n m : Nat) (news : List Value) (g c' : Nat) : Prop where
  own : OwnRow w' e size (some g) (n + m) c'
  new : ∀ j, j < m * size → w'.cell? ⟨g, n * size + j, none⟩ = news[j]?
  old : ∀ j, j < n * size → ∀ k, b = some k → w'.cell? ⟨g, j, none⟩ = w.cell? ⟨k, j, none⟩
  keep : ∀ k j, k < w.heap.size → ¬ (b = some k ∧ n * size ≤ j) → w'.cell? ⟨k, j, none⟩ = w.cell? ⟨k, j, none⟩
  touch : Touch (fun k => b = some k) w w'
  lies : b = some g ∨ w.heap.size ≤ g

section
variable {P : Program} (w : World)

theorem addr_add (g o j : Nat) : (⟨g, o, none⟩ : Addr).add j = ⟨g, o + j, none⟩ := by unfold Addr.add; split <;> simp_all

theorem run_app (t ty : TypeId) (e : TypeId) (i : TypeInfo) (z : Value) (size bytes : Nat) (ht : P.underlying t = some (.slice e)) (hi : P.info? e = some i) (hz : i.zero = some z)
    (hsize : i.size = size) (hby : i.bytes = bytes) (hzs : z.cells.size = size)
    (b : Option Nat) (n c : Nat) (hown : OwnRow w e size b n c)
    (ad : Addr) (m cc : Nat) (news : List Value) (hl : news.length = m * size) (hnews : ∀ j u, news[j]? = some u → w.cell? (ad.add j) = some u) (h1 : ∀ u ∈ news, u.oneCell' = true)
    (hm : 0 < m) (hbytes : (n + m) * bytes ≤ 140737488355328) (h63 : n + m ≤ 140737488355328) :
    ∃ g c' w', (Builtin.append_ #[t, t] ty #[sl b n c, .slice (some ad) m cc]).run P w = .ok (.slice (some ⟨g, 0, none⟩) (n + m) c') w' ∧ AppPost w w' e size b n m news g c' := by
  subst hsize
  subst hby
  have hmx : n + m ≤ maxLen := by simp only [maxLen]; omega
  have grown : ∀ (old : Nat) (xs : List Value), xs.length = n * i.size → (∀ j, j < n * i.size → ∀ k, b = some k → xs[j]? = w.cell? ⟨k, j, none⟩) → old < n + m →
      AppPost w (w.drew.alloc (.cells (xs.toArray ++ news.toArray ++ Builtin.zeroCells z.cells (grownCap w (n + m) old e - (n + m))) e)) e i.size b n m news w.heap.size (grownCap w (n + m) old e) := by
    intro old xs hxl hxs ho
    have hge := grownCap_ge w (n + m) old e
    have hcm : grownCap w (n + m) old e ≤ maxLen := grownCap_le_maxLen w (n + m) old e hmx
    have hnew : (w.drew.alloc (.cells (xs.toArray ++ news.toArray ++ Builtin.zeroCells z.cells (grownCap w (n + m) old e - (n + m))) e)).heap[w.heap.size]? = some (.cells (xs.toArray ++ news.toArray ++ Builtin.zeroCells z.cells (grownCap w (n + m) old e - (n + m))) e (0, 0)) := heap_alloc_new w.drew _
    refine ⟨.inr ⟨_, _, rfl, hnew, ?_, hge, hcm⟩, fun j hj => ?_, fun j hj k hk => ?_, fun k j hk _ => ?_, ((Touch.refl _ w).drew).alloc _, .inr (Nat.le_refl _)⟩
    · simp only [Array.size_append, List.size_toArray, size_zeroCells, hzs, hxl, hl, ← Nat.add_mul]
      congr 1
      omega
    · rw [cell_of_heap hnew, Array.getElem?_append_left (by simp; omega), Array.getElem?_append_right (by simp; omega)]
      simp [hxl]
    · rw [cell_of_heap hnew, Array.getElem?_append_left (by simp; omega), Array.getElem?_append_left (by simp; omega)]
      simpa using hxs j hj k hk
    · exact World.cell?_alloc_past (w := w.drew) _ _ _ hk
  rcases hown with ⟨rfl, rfl, rfl⟩ | ⟨g, cur, rfl, hg, hcs, hnc, hcm⟩
  · have hr := run_append_nil (P := P) w t ty e i z ht hi hz ad m cc news hl hnews (by omega) (by omega) (by simp only [Nat.zero_add] at hbytes; omega)
    have hgr := grown 0 [] (by simp) (fun j hj => by omega) (by omega)
    simp only [Nat.zero_add, Array.empty_append] at hgr hr ⊢
    exact ⟨_, _, _, hr, hgr⟩
  · by_cases hroom : n + m ≤ c
    · have hns : n * i.size + news.length = (n + m) * i.size := by rw [hl, ← Nat.add_mul]
      have hfit : n * i.size + news.length ≤ cur.size := by rw [hns, hcs]; exact Nat.mul_le_mul_right _ hroom
      have hr := run_append_room (P := P) w t ty e i ht hi g n c cur hg ad m cc news hl hnews h1 hroom hfit
      have hsr := setRow_heap w g cur (cur.toList.take (n * i.size) ++ news ++ cur.toList.drop (n * i.size + news.length)).toArray e (0, 0) hg
      have htl : (cur.toList.take (n * i.size)).length = n * i.size := by rw [List.length_take, Array.length_toList]; omega
      have hold : ∀ j, j < n * i.size → (cur.toList.take (n * i.size) ++ news ++ cur.toList.drop (n * i.size + news.length)).toArray[j]? = cur[j]? := fun j hj => by
        simp only [List.getElem?_toArray]
        rw [List.getElem?_append_left (by simp only [List.length_append, htl]; omega), List.getElem?_append_left (by omega), List.getElem?_take_of_lt hj, Array.getElem?_toList]
      refine ⟨g, c, _, hr, ⟨.inr ⟨g, _, rfl, hsr, ?_, hroom, hcm⟩, fun j hj => ?_, fun j hj k hk => ?_, fun k j hk hn => ?_, ⟨rfl, rfl, rfl, by simp [World.setRow], fun k _ hk => setRow_other w g k _ (fun e => hk (by rw [e]))⟩, .inl rfl⟩⟩
      · simp only [List.size_toArray, List.length_append, List.length_drop, htl, Array.length_toList]; omega
      · rw [cell_of_heap hsr]
        simp only [List.getElem?_toArray]
        rw [List.getElem?_append_left (by simp only [List.length_append, htl]; omega), List.getElem?_append_right (by omega), htl]
        congr 1; omega
      · cases hk
        rw [cell_of_heap hsr, cell_of_heap hg]; exact hold j hj
      · by_cases hkg : k = g
        · subst hkg
          rw [cell_of_heap hsr, cell_of_heap hg]; exact hold j (by rcases Nat.lt_or_ge j (n * i.size) with h | h; exact h; exact absurd ⟨rfl, h⟩ hn)
        · exact World.cell?_of_block (setRow_other w g k _ hkg)
    · have hxl : (cur.toList.take (n * i.size)).length = n * i.size := by
        rw [List.length_take, Array.length_toList, hcs]; have := Nat.mul_le_mul_right i.size hnc; omega
      have hxs : ∀ j, j < n * i.size → (cur.toList.take (n * i.size))[j]? = w.cell? ⟨g, j, none⟩ := fun j hj => by
        rw [cell_of_heap hg, List.getElem?_take_of_lt hj, Array.getElem?_toList]
      have holds : ∀ j u, (cur.toList.take (n * i.size))[j]? = some u → w.cell? ((⟨g, 0, none⟩ : Addr).add j) = some u := fun j u hu => by
        have hj : j < n * i.size := by
          rcases Nat.lt_or_ge j (n * i.size) with h | h
          · exact h
          · rw [List.getElem?_eq_none (by omega)] at hu; cases hu
        rw [addr_add, Nat.zero_add, ← hxs j hj]; exact hu
      have hr := run_append_grow (P := P) w t ty e i z ht hi hz ⟨g, 0, none⟩ n c _ hxl holds ad m cc news hl hnews (by omega) (by omega) (growslice_fits (by omega) hbytes)
      exact ⟨_, _, _, hr, grown c _ hxl (fun j hj k hk => by cases hk; exact hxs j hj) (by omega)⟩

theorem wp_app {o : Oper} {a : Act} {K : Act → World → Prop} {Q : Exit → Act → World → Prop} (s x : Operand) (t : TypeId)
    (ho : o.op = .call { callee := .builtin .append, args := #[s, x], argTypes := #[t, t] })
    (e : TypeId) (i : TypeInfo) (z : Value) (size bytes : Nat) (ht : P.underlying t = some (.slice e)) (hi : P.info? e = some i) (hz : i.zero = some z)
    (hsize : i.size = size) (hby : i.bytes = bytes) (hzs : z.cells.size = size)
    (b : Option Nat) (n c : Nat) (hs : a.eval s = sl b n c) (hown : OwnRow w e size b n c)
    (ad : Addr) (m cc : Nat) (news : List Value) (hx : a.eval x = .slice (some ad) m cc) (hl : news.length = m * size) (hnews : ∀ j u, news[j]? = some u → w.cell? (ad.add j) = some u) (h1 : ∀ u ∈ news, u.oneCell' = true)
    (hm : 0 < m) (hbytes : (n + m) * bytes ≤ 140737488355328) (h63 : n + m ≤ 140737488355328)
    (h : ∀ g c' w', AppPost w w' e size b n m news g c' → K (a.put o.dst (.slice (some ⟨g, 0, none⟩) (n + m) c')) w') : o.wp P a w K Q := by
  obtain ⟨g, c', w', hr, h2⟩ := run_app (P := P) w t o.type e i z size bytes ht hi hz hsize hby hzs b n c hown ad m cc news hl hnews h1 hm hbytes h63
  unfold Oper.wp execOp
  simp only [ho, resolve, invoke, builtin, Sem.run_bind, Sem.run_pure, Result.andThen_ok, List.map_toArray, List.map_cons, List.map_nil, hs, hx, hr]
  exact h g c' w' h2

theorem wpList_app {ops : Array Oper} {rest : List Oper} {o : Oper} {a : Act} {Q : Exit → Act → World → Prop} (hgd : o.guard = none) (s x : Operand) (t : TypeId)
    (ho : o.op = .call { callee := .builtin .append, args := #[s, x], argTypes := #[t, t] })
    (e : TypeId) (i : TypeInfo) (z : Value) (size bytes : Nat) (ht : P.underlying t = some (.slice e)) (hi : P.info? e = some i) (hz : i.zero = some z)
    (hsize : i.size = size) (hby : i.bytes = bytes) (hzs : z.cells.size = size)
    (b : Option Nat) (n c : Nat) (hs : a.eval s = sl b n c) (hown : OwnRow w e size b n c)
    (ad : Addr) (m cc : Nat) (news : List Value) (hx : a.eval x = .slice (some ad) m cc) (hl : news.length = m * size) (hnews : ∀ j u, news[j]? = some u → w.cell? (ad.add j) = some u) (h1 : ∀ u ∈ news, u.oneCell' = true)
    (hm : 0 < m) (hbytes : (n + m) * bytes ≤ 140737488355328) (h63 : n + m ≤ 140737488355328)
    (h : ∀ g c' w', AppPost w w' e size b n m news g c' → wpList P ops Q rest (a.put o.dst (.slice (some ⟨g, 0, none⟩) (n + m) c')) w') : wpList P ops Q (o :: rest) a w :=
  wpList_plain hgd fun _ hK => wp_app w s x t ho e i z size bytes ht hi hz hsize hby hzs b n c hs hown ad m cc news hx hl hnews h1 hm hbytes h63 fun g c' w' h2 => hK _ _ (h g c' w' h2)

theorem step_app {ops : Array Oper} {o : Oper} {a : Act} {K : Act → World → Prop} {Q : Exit → Act → World → Prop} {E : Prop} (hgd : o.guard = none) (s x : Operand) (t : TypeId)
    (ho : o.op = .call { callee := .builtin .append, args := #[s, x], argTypes := #[t, t] })
    (e : TypeId) (i : TypeInfo) (z : Value) (size bytes : Nat) (ht : P.underlying t = some (.slice e)) (hi : P.info? e = some i) (hz : i.zero = some z)
    (hsize : i.size = size) (hby : i.bytes = bytes) (hzs : z.cells.size = size)
    (b : Option Nat) (n c : Nat) (hs : a.eval s = sl b n c) (hown : OwnRow w e size b n c)
    (ad : Addr) (m cc : Nat) (news : List Value) (hx : a.eval x = .slice (some ad) m cc) (hl : news.length = m * size) (hnews : ∀ j u, news[j]? = some u → w.cell? (ad.add j) = some u) (h1 : ∀ u ∈ news, u.oneCell' = true)
    (hm : 0 < m) (hbytes : (n + m) * bytes ≤ 140737488355328) (h63 : n + m ≤ 140737488355328)
    (h : ∀ g c' w', AppPost w w' e size b n m news g c' → K (a.put o.dst (.slice (some ⟨g, 0, none⟩) (n + m) c')) w') :
    if Region.wanted o (yielded ops a.tmps) = true then Oper.wp P o a w K Q else E := by
  have hw : Region.wanted o (yielded ops a.tmps) = true := by simp [Region.wanted, hgd]
  rw [if_pos hw]
  exact wp_app w s x t ho e i z size bytes ht hi hz hsize hby hzs b n c hs hown ad m cc news hx hl hnews h1 hm hbytes h63 h

end
end Go.Proofs.YtolififimldmlaaGreat
