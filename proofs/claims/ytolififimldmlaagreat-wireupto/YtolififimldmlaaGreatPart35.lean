import Derived.Test.YtolififimldmlaaGreatPart34
set_option linter.unusedVariables false
set_option linter.unusedSimpArgs false
namespace Go.Proofs.YtolififimldmlaaGreat
open Go.RowKit
attribute [local go_sem ↓] Go.wp_at_zero Go.wp_at_succ

/-- What is to be sent. -/
structure OutG where
  cl : Bool
  tk : Int
  b : List UInt8

/-- What is to be sent, as a call has made it: its row, the bytes of each in a row of their own. -/
structure OwnOuts (w w' : World) (g : Option Nat) (c : Nat) (os : List OutG) (gs : Nat → Option Nat) (cs : Nat → Nat) : Prop where
  own : OwnRow w' 71 3 g os.length c
  new : ∀ k, g = some k → w.heap.size ≤ k
  at_ : ∀ j (h : j < os.length), ∃ k, g = some k ∧ w'.cell? ⟨k, j * 3, none⟩ = some (.bool os[j].cl) ∧ w'.cell? ⟨k, j * 3 + 1, none⟩ = some (.int .i64 os[j].tk) ∧ w'.cell? ⟨k, j * 3 + 2, none⟩ = some (sl (gs j) os[j].b.length (cs j))
  bs : ∀ j (h : j < os.length), OwnBytes w w' (gs j) (cs j) os[j].b
  ne : ∀ j, j < os.length → ∀ k, gs j = some k → g ≠ some k
  ds : ∀ i j, i < j → j < os.length → ∀ k, gs i = some k → gs j ≠ some k

theorem OwnOuts.none_ (w w' : World) : OwnOuts w w' none 0 [] (fun _ => none) (fun _ => 0) :=
  ⟨.inl ⟨rfl, rfl, rfl⟩, (fun k e => by cases e), fun j hj => absurd hj (by simp), fun j hj => absurd hj (by simp), fun j hj => absurd hj (by simp), fun i j _ hj => absurd hj (by simp)⟩
theorem OwnOuts.below {w x y : World} {g : Option Nat} {c : Nat} {os : List OutG} {gs : Nat → Option Nat} {cs : Nat → Nat} (h : OwnOuts w x g c os gs cs) (hb : Below x.heap.size x y) : OwnOuts w y g c os gs cs :=
  ⟨h.own.touch (T := fun _ => False) (Touch.of_belowAll hb _) (fun _ _ e => e), h.new, fun j hj => by
    obtain ⟨k, e, h0, h1, h2⟩ := h.at_ j hj
    exact ⟨k, e, (hb.cell (World.block_lt_of_cell? _ _ h0)).trans h0, (hb.cell (World.block_lt_of_cell? _ _ h1)).trans h1, (hb.cell (World.block_lt_of_cell? _ _ h2)).trans h2⟩, fun j hj => (h.bs j hj).below hb, h.ne, h.ds⟩
theorem OwnOuts.base {u w x : World} {g : Option Nat} {c : Nat} {os : List OutG} {gs : Nat → Option Nat} {cs : Nat → Nat} (h : OwnOuts w x g c os gs cs) (hb : u.heap.size ≤ w.heap.size) : OwnOuts u x g c os gs cs :=
  ⟨h.own, fun k e => Nat.le_trans hb (h.new k e), h.at_, fun j hj => (h.bs j hj).base hb, h.ne, h.ds⟩
theorem OwnBytes.touch {T : Nat → Prop} {w x y : World} {g : Option Nat} {c : Nat} {l : List UInt8} (h : OwnBytes w x g c l) (ht : Touch T x y) (hn : ∀ k, g = some k → ¬ T k) : OwnBytes w y g c l :=
  ⟨h.at_.touch ht hn, h.own.touch ht hn, h.new⟩

/-- One more. -/
theorem OwnOuts.app {w X X1 w3 : World} {g gb : Option Nat} {c cb k g' c' : Nat} {os : List OutG} {gs : Nat → Option Nat} {cs : Nat → Nat} {x : OutG} {o : Obj} (h : OwnOuts w X g c os gs cs) (hb : Below w.heap.size w X) (hk : os.length = k) (hb1 : Below X.heap.size X X1) (hx : OwnBytes X X1 gb cb x.b)
    (P : AppPost (X1.alloc o) w3 71 3 g k 1 [.bool x.cl, .int .i64 x.tk, sl gb x.b.length cb] g' c') :
    OwnOuts w w3 (some g') c' (os ++ [x]) (fun j => if j = os.length then gb else gs j) (fun j => if j = os.length then cb else cs j) ∧ Below w.heap.size w w3 := by
  subst hk
  have s0 := hb.size
  have s1 := hb1.size
  have h1 := h.below hb1
  have bA : Below w.heap.size w (X1.alloc o) := (hb.trans (hb1.mono s0)).alloc (by omega) _
  have hA := h1.below ((Below.refl _ X1).alloc (Nat.le_refl _) o)
  have hxA := hx.below ((Below.refl _ X1).alloc (Nat.le_refl _) o)
  have gT : ∀ k, gb = some k → ¬ (g = some k) := fun k e e2 => by have := hx.new k e; have := h.own.lt e2; omega
  have gG : ∀ k, gb = some k → g' ≠ k := fun k e e2 => by
    subst e2
    rcases P.lies with q | q
    · exact gT _ e q
    · have := hxA.own.lt e; omega
  have oG : ∀ j, j < os.length → ∀ k, gs j = some k → g' ≠ k := fun j hj k e e2 => by
    subst e2
    rcases P.lies with q | q
    · exact h.ne j hj _ e q
    · have := (hA.bs j hj).own.lt e; omega
  refine ⟨⟨by rw [List.length_append]; exact P.own, fun j e => ?_, fun j hj => ⟨g', rfl, ?_⟩, fun j hj => ?_, fun j hj k e => ?_, fun i j hij hj k e => ?_⟩, bA.trans (P.touch.below (by rw [World.size_alloc]; omega) (fun j _ e => h.new j e))⟩
  · have e := Option.some.inj e
    subst e
    rcases P.lies with q | q
    · exact h.new _ q
    · rw [World.size_alloc] at q; omega
  · rw [List.length_append, List.length_singleton] at hj
    by_cases ej : j = os.length
    · subst ej
      have n0 := P.new 0 (by omega)
      have n1 := P.new 1 (by omega)
      have n2 := P.new 2 (by omega)
      simp only [if_true, List.getElem_append_right (Nat.le_refl _), Nat.sub_self, List.getElem_singleton]
      exact ⟨by simpa using n0, by simpa using n1, by simpa using n2⟩
    · have hlt : j < os.length := by omega
      obtain ⟨k, e, h0, h1, h2⟩ := hA.at_ j hlt
      simp only [if_neg ej]
      rw [List.getElem_append_left hlt, P.old (j * 3) (by omega) k e, P.old (j * 3 + 1) (by omega) k e, P.old (j * 3 + 2) (by omega) k e]
      exact ⟨h0, h1, h2⟩
  · rw [List.length_append, List.length_singleton] at hj
    by_cases ej : j = os.length
    · subst ej
      simp only [if_true, List.getElem_append_right (Nat.le_refl _), Nat.sub_self, List.getElem_singleton]
      exact (hxA.touch P.touch (fun k e => gT k e)).base (by omega)
    · have hlt : j < os.length := by omega
      simp only [if_neg ej]
      rw [List.getElem_append_left hlt]
      exact (hA.bs j hlt).touch P.touch (fun k e => h.ne j hlt k e)
  · rw [List.length_append, List.length_singleton] at hj
    by_cases ej : j = os.length
    · simp only [if_pos ej] at e; exact fun e2 => gG k e (Option.some.inj e2)
    · simp only [if_neg ej] at e; exact fun e2 => oG j (by omega) k e (Option.some.inj e2)
  · rw [List.length_append, List.length_singleton] at hj
    have hi : i ≠ os.length := by omega
    simp only [if_neg hi] at e
    by_cases ej : j = os.length
    · simp only [if_pos ej]
      exact fun e2 => by have := hx.new k e2; have := (h.bs i (by omega)).own.lt e; omega
    · simp only [if_neg ej]; exact h.ds i j hij (by omega) k e

/-- One more. -/
theorem OwnOuts.app1 {w X X1 w3 : World} {g gb : Option Nat} {c cb k g' c' : Nat} {os : List OutG} {gs : Nat → Option Nat} {cs : Nat → Nat} {x : OutG} {o : Obj} (h : OwnOuts w X g c os gs cs) (hb : w.heap.size ≤ X.heap.size) (hk : os.length = k) (hb1 : Below X.heap.size X X1) (hx : OwnBytes X X1 gb cb x.b)
    (P : AppPost (X1.alloc o) w3 71 3 g k 1 [.bool x.cl, .int .i64 x.tk, sl gb x.b.length cb] g' c') :
    OwnOuts w w3 (some g') c' (os ++ [x]) (fun j => if j = os.length then gb else gs j) (fun j => if j = os.length then cb else cs j) := by
  subst hk
  have s0 := hb
  have s1 := hb1.size
  have h1 := h.below hb1
  have hA := h1.below ((Below.refl _ X1).alloc (Nat.le_refl _) o)
  have hxA := hx.below ((Below.refl _ X1).alloc (Nat.le_refl _) o)
  have gT : ∀ k, gb = some k → ¬ (g = some k) := fun k e e2 => by have := hx.new k e; have := h.own.lt e2; omega
  have gG : ∀ k, gb = some k → g' ≠ k := fun k e e2 => by
    subst e2
    rcases P.lies with q | q
    · exact gT _ e q
    · have := hxA.own.lt e; omega
  have oG : ∀ j, j < os.length → ∀ k, gs j = some k → g' ≠ k := fun j hj k e e2 => by
    subst e2
    rcases P.lies with q | q
    · exact h.ne j hj _ e q
    · have := (hA.bs j hj).own.lt e; omega
  refine ⟨by rw [List.length_append]; exact P.own, fun j e => ?_, fun j hj => ⟨g', rfl, ?_⟩, fun j hj => ?_, fun j hj k e => ?_, fun i j hij hj k e => ?_⟩
  · have e := Option.some.inj e
    subst e
    rcases P.lies with q | q
    · exact h.new _ q
    · rw [World.size_alloc] at q; omega
  · rw [List.length_append, List.length_singleton] at hj
    by_cases ej : j = os.length
    · subst ej
      have n0 := P.new 0 (by omega)
      have n1 := P.new 1 (by omega)
      have n2 := P.new 2 (by omega)
      simp only [if_true, List.getElem_append_right (Nat.le_refl _), Nat.sub_self, List.getElem_singleton]
      exact ⟨by simpa using n0, by simpa using n1, by simpa using n2⟩
    · have hlt : j < os.length := by omega
      obtain ⟨k, e, h0, h1, h2⟩ := hA.at_ j hlt
      simp only [if_neg ej]
      rw [List.getElem_append_left hlt, P.old (j * 3) (by omega) k e, P.old (j * 3 + 1) (by omega) k e, P.old (j * 3 + 2) (by omega) k e]
      exact ⟨h0, h1, h2⟩
  · rw [List.length_append, List.length_singleton] at hj
    by_cases ej : j = os.length
    · subst ej
      simp only [if_true, List.getElem_append_right (Nat.le_refl _), Nat.sub_self, List.getElem_singleton]
      exact (hxA.touch P.touch (fun k e => gT k e)).base (by omega)
    · have hlt : j < os.length := by omega
      simp only [if_neg ej]
      rw [List.getElem_append_left hlt]
      exact (hA.bs j hlt).touch P.touch (fun k e => h.ne j hlt k e)
  · rw [List.length_append, List.length_singleton] at hj
    by_cases ej : j = os.length
    · simp only [if_pos ej] at e; exact fun e2 => gG k e (Option.some.inj e2)
    · simp only [if_neg ej] at e; exact fun e2 => oG j (by omega) k e (Option.some.inj e2)
  · rw [List.length_append, List.length_singleton] at hj
    have hi : i ≠ os.length := by omega
    simp only [if_neg hi] at e
    by_cases ej : j = os.length
    · simp only [if_pos ej]
      exact fun e2 => by have := hx.new k e2; have := (h.bs i (by omega)).own.lt e; omega
    · simp only [if_neg ej]; exact h.ds i j hij (by omega) k e

/-- What the program sends. -/
def OutsRet (w : World) (os : List OutG) (e : Ending) (w' : World) : Prop := ∃ g c gs cs, e = .returned (sl g os.length c) ∧ OwnOuts w w' g c os gs cs ∧ Below w.heap.size w w'

section
variable (v : PV) (B : Nat) (w : World) (h : v.At w B)
include h

set_option maxRecDepth 100000 in
set_option maxHeartbeats 4000000 in
theorem toOthersV (n : Nat) (hk : v.kp = n) (hn : n ≤ 5) (x : Value) (f : Fr) (HBy : ∀ z, Below w.heap.size w z → Calls Tryz.prog 176 #[x] z (BytesRet z f)) :
    Calls Tryz.prog 124 #[.pointer (some ⟨B, 0, none⟩), x] w (OutsRet w ((othersL v.me n).map fun t => ⟨false, t, packS f⟩)) := by
  have OV := hid (othersV v B w h n hk hn)
  have TK : Hid (∀ z (t : Int), Below w.heap.size w z → Calls Tryz.prog 135 #[.int .i64 t, x] z (OutRet z false t (packS f))) := fun z t hz => toKeeper_of x f t z (fun y hy => HBy y (hz.trans (hy.mono hz.size)))
  unfold OutRet at TK
  obtain ⟨io, hio, hio0, hio1, hio2⟩ := info_parts Tryz.info71
  have hlen := othersL_len v.me n
  clear h hk HBy
  generalize othersL v.me n = L at *
  generalize packS f = pb at *
  have HX : Hid (∀ g c gs cs w', OwnOuts w w' g c (L.map fun t => (⟨false, t, pb⟩ : OutG)) gs cs → Below w.heap.size w w' → OutsRet w (L.map fun t => (⟨false, t, pb⟩ : OutG)) (.returned (.slice (g.map fun k => ⟨k, 0, none⟩) L.length c)) w') := fun g c gs cs w' h1 h2 => ⟨g, c, gs, cs, by rw [List.length_map]; rfl, h1, h2⟩
  go_enter Tryz.func124, Tryz.ntmps124
  go_wp2_with fail
  refine OV.out.mono ?_
  rintro e X0 ⟨gi, ci, rfl, hoi, hb0⟩
  have HOI := hid hoi
  have HB0 := hid hb0
  clear hoi hb0 OV
  unfold sl
  go_wp2
  go_loopw [5, 11] (fun r i wr => ∃ (k : Nat) (g : Option Nat) (c : Nat) (gs : Nat → Option Nat) (cs : Nat → Nat), k ≤ L.length ∧ i = .int .i64 k ∧ r = .slice (g.map fun q => ⟨q, 0, none⟩) k c ∧ Hid (OwnOuts w wr g c ((L.take k).map fun t => (⟨false, t, pb⟩ : OutG)) gs cs) ∧ Hid (Below X0.heap.size X0 wr) ∧ Hid (∀ q, g = some q → X0.heap.size ≤ q)) (fun _ i _ => L.length - (intOf i).toNat)
  case atStart => exact ⟨0, none, 0, _, _, Nat.zero_le _, rfl, rfl, OwnOuts.none_ _ _, Below.refl _ _, fun q e => by cases e⟩
  case round =>
    obtain ⟨k, g, c, gs, cs, hk, rfl, rfl, HO, HB, HG⟩ := hrel
    by_cases hlt : k < L.length
    · have b0 : (0 : Int) ≤ (k : Int) := by omega
      have b1 : (k : Int) < (L.length : Int) := by omega
      obtain ⟨gg, he, hc⟩ := (HOI.out.below HB.out).at_ k hlt
      subst he
      simp only [Option.map_some]
      have HBw := hid (HB0.out.trans (HB.out.mono HB0.out.size))
      have HTK := hid (TK.out wr L[k] HBw.out)
      have hkl : ((L.take k).map fun t => (⟨false, t, pb⟩ : OutG)).length = k := by rw [List.length_map, List.length_take]; omega
      have htk : Hid (L.take (k + 1) = L.take k ++ [L[k]]) := by show _ = _; rw [List.take_add_one, List.getElem?_eq_getElem hlt]; rfl
      generalize L[k] = t at *
      go_wp2_with fail
      refine HTK.out.mono ?_
      rintro e x1 ⟨gb, cb, rfl, hob, hb1⟩
      have HB1 := hid hb1
      have HOB := hid hob
      have HOW : Hid (OwnRow (x1.alloc (.cells #[.bool false, .int .i64 t, .slice (gb.map fun q => ⟨q, 0, none⟩) pb.length cb] 71)) 71 3 g k c) := by
        have := (HO.out.below hb1).own.alloc (.cells #[.bool false, .int .i64 t, .slice (gb.map fun q => ⟨q, 0, none⟩) pb.length cb] 71)
        rw [hkl] at this; exact this
      clear hob hb1
      unfold sl
      go_wp2_with (at_builtin; refine wpList_app _ rfl (.tmp 15) (.tmp 19) 54 rfl 71 io (.agg #[.bool false, .int .i64 0, .slice none 0 0]) 3 40 Tryz.underlying54 hio hio0 hio1 hio2 rfl g k c (by rfl) HOW.out ⟨x1.heap.size, 0, none⟩ 1 1 [.bool false, .int .i64 t, .slice (gb.map fun q => ⟨q, 0, none⟩) pb.length cb] rfl rfl ?c1 ?c2 (by omega) (by omega) (by omega) ?_)
      case c1 => exact World.news_of_block (heap_alloc_new x1 _)
      case c2 => intro u hu; simp at hu; rcases hu with rfl | rfl | rfl <;> rfl
      intro g2 c2 w3 Q
      have HA := hid (OwnOuts.app (x := ⟨false, t, pb⟩) HO.out HBw.out hkl HB1.out HOB.out Q)
      have HBX : Hid (Below X0.heap.size X0 w3) := (HB.out.trans ((HB1.out.alloc HB1.out.size _).mono HB.out.size)).trans (Q.touch.below (by rw [World.size_alloc]; have := HB.out.size; have := HB1.out.size; omega) (fun j _ e => HG.out j e))
      have HG2 : Hid (∀ q, some g2 = some q → X0.heap.size ≤ q) := fun q e => by
        have e := Option.some.inj e
        subst e
        rcases Q.lies with q | q
        · exact HG.out _ q
        · rw [World.size_alloc] at q; have := HB.out.size; have := HB1.out.size; omega
      clear Q
      go_wp2
      go_roundw
      case rel => exact ⟨k + 1, some g2, c2, _, _, by omega, by go_num, rfl, by rw [htk.out, List.map_append]; exact HA.out.1, HBX, HG2⟩
      case measure => simp [intOf]; omega
    · have hkn : k = L.length := by omega
      subst hkn
      rw [List.take_of_length_le (Nat.le_refl _)] at HO
      go_wp2
      go_ret
      exact HX.out g c gs cs _ HO.out (HB0.out.trans (HB.out.mono HB0.out.size))

end
end Go.Proofs.YtolififimldmlaaGreat

set_option linter.unusedVariables false
set_option linter.unusedSimpArgs false
namespace Go.Proofs.YtolififimldmlaaGreat
open Go.RowKit
attribute [local go_sem ↓] Go.wp_at_zero Go.wp_at_succ

/-- A record's bytes. -/
def recBytes (inner : List UInt8) : List UInt8 := withChk (byteOf inner.length :: inner)

set_option maxRecDepth 100000 in
set_option maxHeartbeats 4000000 in
theorem whole_go (a : Option Addr) (n c : Nat) (inner : List UInt8) (w : World) (hb : BytesIn w a inner) (hl : inner.length = n) (hn : inner.length ≤ 1000) :
    Calls Tryz.prog 184 #[.slice a n c] w fun e w' => ∃ g cq, e = .returned (.slice (some ⟨g, 0, none⟩) (recBytes inner).length cq) ∧ OwnBytes w w' (some g) cq (recBytes inner) ∧ Below w.heap.size w w' := by
  have HI := hid hb
  clear hb
  subst hl
  unfold recBytes
  go_enter Tryz.func184, Tryz.ntmps184
  obtain ⟨Y, hY⟩ : ∃ Y, Y = w.alloc (.cells #[.int .u8 ((inner.length : Int) % 256)] 5) := ⟨_, rfl⟩
  have HYb : Hid (Below w.heap.size w Y) := by show Below _ _ _; rw [hY]; exact (Below.refl _ _).alloc (Nat.le_refl _) _
  have HOB : Hid (OwnBytes w Y (some w.heap.size) 1 [byteOf inner.length]) := by
    have hh : Y.heap[w.heap.size]? = some (.cells #[.int .u8 ((inner.length : Int) % 256)] 5 (0, 0)) := by rw [hY]; exact heap_alloc_new w _
    refine ⟨fun j hj => ⟨w.heap.size, rfl, ?_⟩, .inr ⟨_, _, rfl, hh, rfl, Nat.le_refl _, by simp only [maxLen]; omega⟩, fun k e => by cases e; exact Nat.le_refl _⟩
    have : j = 0 := by simpa using hj
    subst this
    rw [cell_of_heap hh]
    have := byteOf_cell (inner.length : Int)
    simp only [List.getElem?_toArray, List.getElem?_cons_zero, List.getElem_cons_zero]
    rw [this]
  obtain ⟨b', c', w2, hr, ho, hb2⟩ := run_appB (l2 := inner) 31 31 (.slice a inner.length c) HOB.out HYb.out (bytes_src a inner.length c inner Y (HI.out.below HYb.out) rfl) (by simp; omega)
  obtain ⟨gb, rfl⟩ : ∃ gb, b' = some gb := by obtain ⟨k, e, _⟩ := ho.at_ 0 (by simp); exact ⟨k, e⟩
  rw [List.singleton_append] at ho
  have hl2 : (byteOf inner.length :: inner).length = 1 + inner.length := by simp; omega
  have CA : Hid (∃ z, z = w2 ∧ Calls Tryz.prog 72 #[.slice (some ⟨gb, 0, none⟩) (1 + inner.length) c'] w2 fun e w' => ∃ g' cq, e = .returned (.slice (some ⟨g', 0, none⟩) (withChk (byteOf inner.length :: inner)).length cq) ∧ Grew w2 w' (some gb) g' cq (withChk (byteOf inner.length :: inner))) := ⟨w2, rfl, by
    have := checkAppend_any gb c' (byteOf inner.length :: inner) w2 ho.at_ ho.own (by rw [hl2]; omega)
    rw [hl2] at this; exact this⟩
  have hr2 : (Builtin.append_ #[31, 31] 31 #[.slice (some ⟨w.heap.size, 0, none⟩) 1 1, .slice a inner.length c]).run Tryz.prog Y = .ok (.slice (some ⟨gb, 0, none⟩) (1 + inner.length) c') w2 := hr
  have HR := hid hr2
  have HO := hid ho
  have HB2 := hid hb2
  have HY := hid hY
  have HXX : Hid (∀ g cq w', Grew w2 w' (some gb) g cq (withChk (byteOf inner.length :: inner)) → OwnBytes w w' (some g) cq (withChk (byteOf inner.length :: inner)) ∧ Below w.heap.size w w') := fun g cq w' G => by
    refine ⟨⟨G.at_, G.own, fun k e => ?_⟩, hb2.trans (G.touch.below hb2.size (fun k _ e => ho.new k e))⟩
    have e := Option.some.inj e
    subst e
    rcases G.lies with e | e
    · exact ho.new _ e
    · have := hb2.size; omega
  clear hr hr2 ho hb2 hY hl2 HOB
  go_wp2_with (at_builtin; rw [← HY.out]; refine wpList_appRun rfl (.tmp 6) (.tmp 7) 31 31 rfl _ _ _ _ rfl rfl HR.out ?_)
  go_wp2_with fail
  obtain ⟨_, _, CC⟩ := CA.out
  refine CC.mono ?_
  rintro e w3 ⟨g', cq, rfl, G⟩
  have HG := hid (HXX.out g' cq w3 G)
  clear G CC
  go_wp2
  go_ret
  exact ⟨g', cq, rfl, HG.out.1, HG.out.2⟩

end Go.Proofs.YtolififimldmlaaGreat
