import Derived.Test.YtolififimldmlaaGreatLonger
import Derived.Test.YtolififimldmlaaGreatAppS
import Derived.Test.YtolififimldmlaaGreatGoC
set_option linter.unusedVariables false
set_option linter.unusedSimpArgs false
namespace Go.Proofs.YtolififimldmlaaGreat
open Go.RowKit
attribute [local go_sem ↓] Go.wp_at_zero Go.wp_at_succ

/-- A row of bytes of the call's own has grown. -/
structure Grew (w w' : World) (b : Option Nat) (g c : Nat) (l : List UInt8) : Prop where
  at_ : BytesAt w' (some g) l
  own : OwnRow w' 5 1 (some g) l.length c
  touch : Touch (fun k => b = some k) w w'
  lies : b = some g ∨ w.heap.size ≤ g

theorem Grew.trans {w x y : World} {b : Option Nat} {g c g' c' : Nat} {l l' : List UInt8} (h : Grew w x b g c l) (k : Grew x y (some g) g' c' l') : Grew w y b g' c' l' :=
  ⟨k.at_, k.own, h.touch.trans k.touch (fun i hi e => by
    cases e
    rcases h.lies with e | e
    · exact e
    · omega), by
    rcases k.lies with e | e
    · cases e; exact h.lies
    · exact .inr (Nat.le_trans h.touch.size e)⟩

theorem BytesAt.touch {T : Nat → Prop} {w w' : World} {g : Option Nat} {l : List UInt8} (h : BytesAt w g l) (ht : Touch T w w') (hn : ∀ k, g = some k → ¬ T k) : BytesAt w' g l := fun j hj => by
  obtain ⟨k, e, hc⟩ := h j hj
  exact ⟨k, e, ht.cell hc (hn k e)⟩
theorem BytesAt.in_ {w : World} {g : Nat} {l : List UInt8} (h : BytesAt w (some g) l) : BytesIn w (some ⟨g, 0, none⟩) l := fun j hj => by
  obtain ⟨k, e, hc⟩ := h j hj
  cases e
  exact ⟨g, 0, rfl, by rw [Nat.zero_add]; exact hc⟩

def u8cells (l : List UInt8) : List Value := l.map fun b => .int .u8 b.toNat
theorem u8cells_len (l : List UInt8) : (u8cells l).length = l.length := by simp [u8cells]
theorem u8cells_one (l : List UInt8) : ∀ u ∈ u8cells l, u.oneCell' = true := by
  intro u hu
  obtain ⟨b, _, rfl⟩ := List.mem_map.1 hu
  rfl
theorem u8cells_at (l : List UInt8) (j : Nat) (h : j < l.length) : (u8cells l)[j]? = some (.int .u8 l[j].toNat) := by simp [u8cells, h]

/-- Bytes behind bytes. -/
theorem Grew.app {w x y : World} {b : Option Nat} {g c n m g' c' : Nat} {l l2 : List UInt8} {news : List Value} (h : Grew w x b g c l) (P : AppPost x y 5 1 (some g) n m news g' c') (hn : l.length = n) (hm : l2.length = m) (hnew : news = u8cells l2) :
    Grew w y b g' c' (l ++ l2) := by
  subst hnew
  subst hn
  subst hm
  refine h.trans ⟨fun j hj => ?_, by rw [List.length_append]; exact P.own, P.touch, P.lies⟩
  refine ⟨g', rfl, ?_⟩
  rcases Nat.lt_or_ge j l.length with hlt | hge
  · obtain ⟨k, e, hc⟩ := h.at_ j hlt
    cases e
    rw [List.getElem_append_left hlt, P.old j (by omega) g rfl]; exact hc
  · rw [List.length_append] at hj
    have := P.new (j - l.length) (by omega)
    rw [show l.length * 1 + (j - l.length) = j from by omega] at this
    rw [this, u8cells_at _ _ (by omega), List.getElem_append_right hge]

theorem Grew.refl {w : World} {g c : Nat} {l : List UInt8} (h : BytesAt w (some g) l) (ho : OwnRow w 5 1 (some g) l.length c) : Grew w w (some g) g c l :=
  ⟨h, ho, Touch.refl _ _, .inl rfl⟩
theorem Grew.below {w x y : World} {b : Option Nat} {g c : Nat} {l : List UInt8} (h : Grew w x b g c l) (hb : Below x.heap.size x y) : Grew w y b g c l :=
  ⟨h.at_.touch (T := fun _ => False) (Touch.of_belowAll hb _) (fun _ _ e => e), h.own.touch (T := fun _ => False) (Touch.of_belowAll hb _) (fun _ _ e => e), h.touch.trans (T' := fun _ => False) (Touch.of_belowAll hb _) (fun _ _ e => e.elim), h.lies⟩
theorem Grew.alloc {w x : World} {b : Option Nat} {g c : Nat} {l : List UInt8} (h : Grew w x b g c l) (o : Obj) : Grew w (x.alloc o) b g c l := h.below ((Below.refl _ _).alloc (Nat.le_refl _) _)
theorem Grew.drew {w x : World} {b : Option Nat} {g c : Nat} {l : List UInt8} (h : Grew w x b g c l) : Grew w x.drew b g c l := h.below ((Below.refl _ _).drew)

theorem byteCells_u8 (l : List UInt8) : byteCells ⟨l.toArray⟩ = u8cells l := by simp [byteCells, u8cells]
theorem byteOf_cell (n : Int) : (((byteOf n).toNat : Nat) : Int) = n % 256 := by
  unfold byteOf
  have : (n % 256).toNat < 256 := by omega
  rw [UInt8.toNat_ofNat', Nat.mod_eq_of_lt (by omega)]; omega

end Go.Proofs.YtolififimldmlaaGreat
