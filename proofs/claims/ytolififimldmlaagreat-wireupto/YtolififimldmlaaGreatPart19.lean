import Derived.Test.YtolififimldmlaaGreatPart16
import Derived.Test.YtolififimldmlaaGreatPart18
set_option linter.unusedVariables false
set_option linter.unusedSimpArgs false
namespace Go.Proofs.YtolififimldmlaaGreat
open Go.RowKit
attribute [local go_sem ↓] Go.wp_at_zero Go.wp_at_succ

/-- What a disk says with one record more, right or not. -/
def AfterRet (wB w : World) (m : Mm) (g : Option Nat) (c : Nat) (cand : Option Mm) (e : Ending) (w' : World) : Prop :=
  OwnLines wB w' g c m.ls ∧ Touch (fun k => g = some k) w w' ∧ ((cand = none ∧ e = .returned (.tuple #[.agg #[.int .i64 0, .int .i64 0, .slice none 0 0], .bool false])) ∨
    ∃ n g' c', cand = some n ∧ e = .returned (.tuple #[n.val (g'.map fun k => (⟨k, 0, none⟩ : Addr)) c', .bool true]) ∧ OwnLines wB w' g' c' n.ls ∧ ∀ k, g' = some k → g = some k ∨ w.heap.size ≤ k)

theorem lmRet {Q : Ending → World → Prop} {a : Act} {W : World} {B : Nat} {fz : Nat × Nat} {v0 v1 v2 : Value} {er : Bool} (hB : W.heap[B]? = some (.cells #[v0, v1, v2] 94 fz))
    (ht : a.tmps[4]? = some (.pointer (some ⟨B, 0, none⟩))) (he : a.tmps[5]? = some (.bool er)) (hd : a.defers = []) (hq : Q (.returned (.tuple #[.agg #[v0, v1, v2], .bool er])) W) : bodyPost Tryz.prog Tryz.f173 Q Exit.ret a W := by
  have c0 : W.cell? ⟨B, 0, none⟩ = some v0 := (cell_of_heap hB 0).trans rfl
  have c1 : W.cell? ⟨B, 1, none⟩ = some v1 := (cell_of_heap hB 1).trans rfl
  have c2 : W.cell? ⟨B, 2, none⟩ = some v2 := (cell_of_heap hB 2).trans rfl
  exact bodyPost_ret (v := .tuple #[.agg #[v0, v1, v2], .bool er]) (by simp [results, Tryz.results173, go_sem, ht, he, c0, c1, c2]) hd hq

theorem avRet {Q : Ending → World → Prop} {a : Act} {W : World} {B : Nat} {fz : Nat × Nat} {v0 v1 v2 : Value} {er : Bool} (hB : W.heap[B]? = some (.cells #[v0, v1, v2] 94 fz))
    (ht : a.tmps[4]? = some (.pointer (some ⟨B, 0, none⟩))) (he : a.tmps[5]? = some (.bool er)) (hd : a.defers = []) (hq : Q (.returned (.tuple #[.agg #[v0, v1, v2], .bool er])) W) : bodyPost Tryz.prog Tryz.f174 Q Exit.ret a W := by
  have c0 : W.cell? ⟨B, 0, none⟩ = some v0 := (cell_of_heap hB 0).trans rfl
  have c1 : W.cell? ⟨B, 1, none⟩ = some v1 := (cell_of_heap hB 1).trans rfl
  have c2 : W.cell? ⟨B, 2, none⟩ = some v2 := (cell_of_heap hB 2).trans rfl
  exact bodyPost_ret (v := .tuple #[.agg #[v0, v1, v2], .bool er]) (by simp [results, Tryz.results174, go_sem, ht, he, c0, c1, c2]) hd hq

theorem aaRet {Q : Ending → World → Prop} {a : Act} {W : World} {B : Nat} {fz : Nat × Nat} {v0 v1 v2 : Value} {er : Bool} (hB : W.heap[B]? = some (.cells #[v0, v1, v2] 94 fz))
    (ht : a.tmps[2]? = some (.pointer (some ⟨B, 0, none⟩))) (he : a.tmps[3]? = some (.bool er)) (hd : a.defers = []) (hq : Q (.returned (.tuple #[.agg #[v0, v1, v2], .bool er])) W) : bodyPost Tryz.prog Tryz.f175 Q Exit.ret a W := by
  have c0 : W.cell? ⟨B, 0, none⟩ = some v0 := (cell_of_heap hB 0).trans rfl
  have c1 : W.cell? ⟨B, 1, none⟩ = some v1 := (cell_of_heap hB 1).trans rfl
  have c2 : W.cell? ⟨B, 2, none⟩ = some v2 := (cell_of_heap hB 2).trans rfl
  exact bodyPost_ret (v := .tuple #[.agg #[v0, v1, v2], .bool er]) (by simp [results, Tryz.results175, go_sem, ht, he, c0, c1, c2]) hd hq

theorem afRet {Q : Ending → World → Prop} {a : Act} {W : World} {B : Nat} {fz : Nat × Nat} {v0 v1 v2 : Value} {er : Bool} (hB : W.heap[B]? = some (.cells #[v0, v1, v2] 94 fz))
    (ht : a.tmps[4]? = some (.pointer (some ⟨B, 0, none⟩))) (he : a.tmps[5]? = some (.bool er)) (hd : a.defers = []) (hq : Q (.returned (.tuple #[.agg #[v0, v1, v2], .bool er])) W) : bodyPost Tryz.prog Tryz.f130 Q Exit.ret a W := by
  have c0 : W.cell? ⟨B, 0, none⟩ = some v0 := (cell_of_heap hB 0).trans rfl
  have c1 : W.cell? ⟨B, 1, none⟩ = some v1 := (cell_of_heap hB 1).trans rfl
  have c2 : W.cell? ⟨B, 2, none⟩ = some v2 := (cell_of_heap hB 2).trans rfl
  exact bodyPost_ret (v := .tuple #[.agg #[v0, v1, v2], .bool er]) (by simp [results, Tryz.results130, go_sem, ht, he, c0, c1, c2]) hd hq


def candL (m : Mm) (b : List UInt8) : Option Mm := if tlOk b && (tlRest b).isEmpty then some ⟨m.view, m.last, m.ls ++ [tlLine b]⟩ else none
def candV (m : Mm) (b : List UInt8) : Option Mm := if b.length = 1 then some ⟨(b.getD 0 0).toNat, m.last, m.ls⟩ else none
def candA (b : List UInt8) : Option Mm := if b.length = 0 then none else if tsOk (b.drop 1) && (tsRest (b.drop 1)).isEmpty then some ⟨(b.getD 0 0).toNat, (b.getD 0 0).toNat, tsLines (b.drop 1)⟩ else none

theorem OwnLines.old {wB X w3 : World} {g : Option Nat} {c n g' c' : Nat} {ls : List Ln} {news : List Value} (h : OwnLines wB X g c ls) (hn : ls.length = n) (P : AppPost X w3 27 3 g n 1 news g' c') (ho : OwnRow w3 27 3 g n c) : OwnLines wB w3 g c ls := by
  refine ⟨fun j hj => ?_, by rw [hn]; exact ho, h.new⟩
  obtain ⟨k, o, e, h0, h1, h2⟩ := h.at_ j hj
  have hk := World.block_lt_of_cell? _ _ h0
  dsimp only at hk
  have ho0 : o = 0 := by
    cases g with
    | none => cases e
    | some g0 => simp only [Option.map_some, Option.some.injEq, Addr.mk.injEq] at e; exact e.2.1.symm
  subst ho0
  refine ⟨k, 0, e, (P.keep k _ hk ?_).trans h0, (P.keep k _ hk ?_).trans h1, (P.keep k _ hk ?_).trans h2⟩
  all_goals (rintro ⟨_, hle⟩; omega)

set_option maxRecDepth 100000 in
set_option maxHeartbeats 4000000 in
theorem afterLineMore_go (m : Mm) (g : Option Nat) (c : Nat) (a : Option Addr) (n cap : Nat) (b : List UInt8) (wB w0 w : World) (hO : OwnLines wB w g c m.ls) (hm : m.ls.length ≤ 20) (hwB : wB.heap.size ≤ w.heap.size) (hb : BytesIn w0 a b) (hw : Below w0.heap.size w0 w) (hbl : b.length = n) (hn : b.length ≤ 100000) (hcap : b.length ≤ cap) :
    Calls Tryz.prog 173 #[m.val (g.map fun k => (⟨k, 0, none⟩ : Addr)) c, .slice a n cap] w (AfterRet wB w m g c (candL m b)) := by
  obtain ⟨view, last, ls⟩ := m
  dsimp only at hO hm
  have HO := hid hO
  have HB := hid hb
  have HW := hid hw
  have HBL := hid hbl
  clear hO hb hw hbl
  have HV : Hid ((Mm.mk view last ls).val (g.map fun k => (⟨k, 0, none⟩ : Addr)) c = .agg #[.int .i64 view, .int .i64 last, .slice (g.map fun k => ⟨k, 0, none⟩) ls.length c]) := rfl
  rw [HV.out]
  have HC : Hid (candL ⟨view, last, ls⟩ b = if tlOk b && (tlRest b).isEmpty then some ⟨view, last, ls ++ [tlLine b]⟩ else none) := rfl
  obtain ⟨il, hil, hil0, hil1, hil2⟩ := info_parts Tryz.info27
  go_enter Tryz.func173, Tryz.ntmps173
  go_wp2_with fail
  refine (takeLine_at a n cap b w0 _ HB.out ((HW.out.alloc HW.out.size _).alloc (by have := HW.out.size; simp; omega) _) HBL.out (by omega) hcap).mono ?_
  rintro e w2 ⟨a2, cap2, rfl, hbi, hcp, hb2⟩
  have b02 : Below w.heap.size w w2 := (((Below.refl _ w).alloc (Nat.le_refl _) _).alloc (by simp) _).trans (hb2.mono (by simp; omega))
  have M2 : Hid (MBox w.heap.size 94 (.int .i64 view) (.int .i64 last) (.slice (g.map fun k => ⟨k, 0, none⟩) ls.length c) w2) := MBox.below (MBox.below (heap_alloc_new w _) ((Below.refl _ _).alloc (Nat.le_refl _) _)) hb2
  have R2 : Hid (MBox (w.heap.size + 1) 94 (.int .i64 0) (.int .i64 0) (.slice none 0 0) w2) := MBox.below (heap_alloc2 w _ _ _) hb2
  have O2 := hid (HO.out.below b02)
  have B02 := hid b02
  have hgM : Hid (g ≠ some w.heap.size) := fun e => by have := HO.out.own.lt e; omega
  have hgR : Hid (g ≠ some (w.heap.size + 1)) := fun e => by have := HO.out.own.lt e; omega
  have hMR : w.heap.size ≠ w.heap.size + 1 := by omega
  have hRM : w.heap.size + 1 ≠ w.heap.size := by omega
  clear hbi hcp hb2 b02
  obtain ⟨m0, m1, m2, fm⟩ := mbox_cells M2.out
  obtain ⟨r0, r1, r2, fr⟩ := mbox_cells R2.out
  have hMl : w.heap.size < w2.heap.size := heap_lt M2.out
  have hRl : w.heap.size + 1 < w2.heap.size := heap_lt R2.out
  have HMw : Hid (w.heap.size ≤ w.heap.size + 1) := by show _ ≤ _; omega
  generalize w.heap.size + 1 = R at *
  unfold sla
  cases hok : tlOk b
  · have HN : Hid (candL ⟨view, last, ls⟩ b = none) := by show _ = _; rw [HC.out, hok]; rfl
    clear hok
    go_wp2
    exact lmRet (alloc_keep1 (mset2 (mset1 (mset0 R2.out _) _) _)) rfl rfl rfl ⟨(((O2.out.setOther R 0 _ hgR.out).setOther R 1 _ hgR.out).setOther R 2 _ hgR.out).below ((Below.refl _ _).alloc (Nat.le_refl _) _),
      ((((Touch.of_belowAll B02.out _).setCell (p := ⟨R, 0, none⟩) (fun h => absurd h (Nat.not_lt.2 HMw.out)) _).setCell (p := ⟨R, 1, none⟩) (fun h => absurd h (Nat.not_lt.2 HMw.out)) _).setCell (p := ⟨R, 2, none⟩) (fun h => absurd h (Nat.not_lt.2 HMw.out)) _).alloc _, .inl ⟨HN.out, rfl⟩⟩
  cases hr : tlRest b with
  | cons y ys =>
    have HN : Hid (candL ⟨view, last, ls⟩ b = none) := by show _ = _; rw [HC.out, hok, hr]; rfl
    clear hok hr
    go_wp2
    exact lmRet (alloc_keep1 (mset2 (mset1 (mset0 R2.out _) _) _)) rfl rfl rfl ⟨(((O2.out.setOther R 0 _ hgR.out).setOther R 1 _ hgR.out).setOther R 2 _ hgR.out).below ((Below.refl _ _).alloc (Nat.le_refl _) _),
      ((((Touch.of_belowAll B02.out _).setCell (p := ⟨R, 0, none⟩) (fun h => absurd h (Nat.not_lt.2 HMw.out)) _).setCell (p := ⟨R, 1, none⟩) (fun h => absurd h (Nat.not_lt.2 HMw.out)) _).setCell (p := ⟨R, 2, none⟩) (fun h => absurd h (Nat.not_lt.2 HMw.out)) _).alloc _, .inl ⟨HN.out, rfl⟩⟩
  | nil =>
    have HY : Hid (candL ⟨view, last, ls⟩ b = some ⟨view, last, ls ++ [tlLine b]⟩) := by show _ = _; rw [HC.out, hok, hr]; rfl
    clear hok hr HC
    generalize tlLine b = x at HY ⊢
    have hnl : w2.heap.size < (w2.alloc (.cells #[.int .i64 x.c, .int .i64 x.t, .string ⟨x.s.toArray⟩] 27)).heap.size := by simp
    obtain ⟨X, hX⟩ : ∃ X : World, X = (w2.alloc (.cells #[.int .i64 x.c, .int .i64 x.t, .string ⟨x.s.toArray⟩] 27)).alloc (.cells #[.int .i64 x.c, .int .i64 x.t, .string ⟨x.s.toArray⟩] 27) := ⟨_, rfl⟩
    have b2X : Hid (Below w2.heap.size w2 X) := by show Below _ _ _; rw [hX]; exact ((Below.refl _ _).alloc (Nat.le_refl _) _).alloc (by simp) _
    have OX := hid (O2.out.below b2X.out)
    have MX := hid (M2.out.below b2X.out)
    have RX := hid (R2.out.below b2X.out)
    have BX := hid (B02.out.trans (b2X.out.mono B02.out.size))
    have hXn : Hid (X.heap[w2.heap.size + 1]? = some (.cells #[.int .i64 x.c, .int .i64 x.t, .string ⟨x.s.toArray⟩] 27 (0, 0))) := by show _ = _; rw [hX]; exact heap_alloc2 w2 _ _ _
    have HX := hid hX
    clear hX
    go_wp2_with (at_builtin; rw [← HX.out]; refine wpList_appK _ rfl (.tmp 24) (.tmp 26) 28 rfl 27 il (.agg #[.int .i64 0, .int .i64 0, .string ⟨#[]⟩]) 3 32 Tryz.underlying28 hil hil0 hil1 hil2 rfl g ls.length c (by rfl) OX.out.own ⟨w2.heap.size + 1, 0, none⟩ 1 1 [.int .i64 x.c, .int .i64 x.t, .string ⟨x.s.toArray⟩] rfl rfl ?c1 ?c2 (by omega) (by omega) (by omega) ?_)
    case c1 => exact World.news_of_block hXn.out
    case c2 => intro u hu; simp at hu; rcases hu with rfl | rfl | rfl <;> rfl
    intro g2 c2 w3 P hold
    have O3 : Hid (OwnLines wB w3 (some g2) c2 (ls ++ [x])) := by
      refine ⟨OX.out.at_.app rfl P, ?_, fun j e => ?_⟩
      · have := P.own
        rw [List.length_append]; exact this
      · have e := Option.some.inj e
        subst e
        rcases P.lies with q | q
        · exact OX.out.new _ q
        · have := BX.out.size; omega
    have OO3 := hid (OX.out.old rfl P hold)
    have M3 := hid (MX.out.touch P.touch hgM.out)
    have R3 := hid (RX.out.touch P.touch hgR.out)
    have T3 : Hid (Touch (fun k => g = some k) w w3) := (Touch.of_belowAll BX.out (fun _ => False)).mono (fun _ _ e => e.elim) |>.trans P.touch (fun _ _ e => e)
    have hg2M : Hid ((some g2 : Option Nat) ≠ some w.heap.size) := fun e => by
      rcases P.lies with q | q
      · exact hgM.out (q.trans e)
      · have := heap_lt MX.out; have := Option.some.inj e; omega
    have hg2R : Hid ((some g2 : Option Nat) ≠ some R) := fun e => by
      rcases P.lies with q | q
      · exact hgR.out (q.trans e)
      · have := heap_lt RX.out; have := Option.some.inj e; omega
    have HLI : Hid (∀ k, (some g2 : Option Nat) = some k → g = some k ∨ w.heap.size ≤ k) := fun k e => by
      have e := Option.some.inj e
      subst e
      rcases P.lies with q | q
      · exact .inl q
      · exact .inr (Nat.le_trans BX.out.size q)
    clear P hold m0 m1 m2 fm r0 r1 r2 fr
    obtain ⟨m0, m1, m2, fm⟩ := mbox_cells M3.out
    obtain ⟨r0, r1, r2, fr⟩ := mbox_cells R3.out
    go_wp2
    refine lmRet (mset2 (mset1 (mset0 (R3.out.other hRM) _) _) _) rfl rfl rfl ⟨?_, ?_, .inr ⟨⟨view, last, ls ++ [x]⟩, some g2, c2, HY.out, ?_, ?_, HLI.out⟩⟩
    · exact (((OO3.out.setOther w.heap.size 2 _ hgM.out).setOther R 0 _ hgR.out).setOther R 1 _ hgR.out).setOther R 2 _ hgR.out
    · exact (((T3.out.setCell (p := ⟨w.heap.size, 2, none⟩) (fun h => absurd h (Nat.lt_irrefl _)) _).setCell (p := ⟨R, 0, none⟩) (fun h => absurd h (Nat.not_lt.2 HMw.out)) _).setCell (p := ⟨R, 1, none⟩) (fun h => absurd h (Nat.not_lt.2 HMw.out)) _).setCell (p := ⟨R, 2, none⟩) (fun h => absurd h (Nat.not_lt.2 HMw.out)) _
    · show _ = Ending.returned (.tuple #[.agg #[.int .i64 view, .int .i64 last, .slice (some ⟨g2, 0, none⟩) (ls ++ [x]).length c2], .bool true])
      rw [List.length_append]; rfl
    · exact (((O3.out.setOther w.heap.size 2 _ hg2M.out).setOther R 0 _ hg2R.out).setOther R 1 _ hg2R.out).setOther R 2 _ hg2R.out

end Go.Proofs.YtolififimldmlaaGreat
