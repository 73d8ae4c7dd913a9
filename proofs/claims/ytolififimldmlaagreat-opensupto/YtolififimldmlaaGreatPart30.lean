import Derived.Test.YtolififimldmlaaGreatPart09
import Derived.Test.YtolififimldmlaaGreatPart21
import Derived.StillTailTactics
import Derived.Test.YtolififimldmlaaGreatPart29
set_option linter.unusedVariables false
set_option linter.unusedSimpArgs false
namespace Go.Proofs.YtolififimldmlaaGreat

/-- Is a configuration right? -/
def ConfOk (kp me pa : Int) : Prop := (kp = 3 ∨ kp = 5) ∧ 0 ≤ me ∧ me < kp ∧ 2 ≤ pa ∧ pa ≤ 20

/-- A keeper, as the document speaks of it: its configuration, its disk, what that says, how far it will go, what was lost at a write that failed (nothing: it has not), what is agreed, who holds how much. -/
structure LK where
  kp : Int
  me : Int
  pa : Int
  d : List UInt8
  m : Mm
  arm : Int
  lost : List UInt8
  agreed : Nat
  hs : Nat → Int

def LK.dead (s : LK) : Bool := !s.lost.isEmpty
/-- A keeper that was opened. -/
def LK.opened (kp me pa : Int) (d : List UInt8) (m : Mm) : LK := ⟨kp, me, pa, d, m, 0, [], 0, fun _ => 0⟩
/-- What is on its disk. -/
def LK.image (s : LK) (keep : Int) : List UInt8 := s.d ++ s.lost.take keep.toNat
/-- What it tells of itself. -/
def LK.mv (s : LK) : Mm := if s.dead then Mm.zero else s.m
def LK.av (s : LK) : Nat := if s.dead then 0 else s.agreed
/-- What every keeper of a script keeps. -/
def LK.ok (s : LK) : Prop := s.d.length + s.lost.length ≤ 9900000 ∧ ConfOk s.kp s.me s.pa ∧ s.agreed ≤ s.m.ls.length ∧ s.m.ls.length ≤ 20

theorem LK.opened_dead (kp me pa : Int) (d : List UInt8) (m : Mm) : (LK.opened kp me pa d m).dead = false := rfl
theorem LK.image_len (s : LK) (keep : Int) : (s.image keep).length ≤ s.d.length + s.lost.length := by
  unfold LK.image
  rw [List.length_append, List.length_take]
  omega
theorem LK.opened_image (kp me pa : Int) (d : List UInt8) (m : Mm) (keep : Int) : (LK.opened kp me pa d m).image keep = d := by
  unfold LK.image LK.opened
  simp
theorem LK.av_le {s : LK} (h : s.ok) : s.av ≤ s.mv.ls.length := by
  unfold LK.av LK.mv
  cases s.dead
  · exact h.2.2.1
  · simp
theorem LK.mv_len {s : LK} (h : s.ok) : s.mv.ls.length ≤ 20 := by
  unfold LK.mv
  cases s.dead
  · exact h.2.2.2
  · simp [Mm.zero]

theorem readF_len {s : List UInt8} : ∀ (f : Nat) (m : Mm) (at_ : Nat), m.ls.length ≤ 20 → (readF s f m at_).1.ls.length ≤ 20 := by
  intro f
  induction f with
  | zero => intro m at_ h; exact h
  | succ f ih =>
    intro m at_ h
    unfold readF
    split
    · exact h
    · split
      · exact h
      · rename_i m' hm
        exact ih _ _ (okM_len (doesM_ok hm))
theorem readD_len (s : List UInt8) : (readD s).1.ls.length ≤ 20 := readF_len _ _ _ (by simp [Mm.zero])
theorem LK.opened_ok (kp me pa : Int) (l : List UInt8) (hc : ConfOk kp me pa) (hl : l.length ≤ 9900000) : (LK.opened kp me pa (l.take (readD l).2) (readD l).1).ok := by
  refine ⟨?_, hc, Nat.zero_le _, readD_len l⟩
  show (l.take (readD l).2).length + ([] : List UInt8).length ≤ 9900000
  rw [List.length_take]
  simp
  omega

end Go.Proofs.YtolififimldmlaaGreat

set_option linter.unusedVariables false
set_option linter.unusedSimpArgs false
namespace Go.Proofs.YtolififimldmlaaGreat
open Go.RowKit
attribute [local go_sem ↓] Go.wp_at_zero Go.wp_at_succ

theorem conf_no {kp me pa : Int} (h : ¬ ConfOk kp me pa) : (kp ≠ 3 ∧ kp ≠ 5) ∨ ((kp = 3 ∨ kp = 5) ∧ (me < 0 ∨ (0 ≤ me ∧ (kp ≤ me ∨ (me < kp ∧ (pa < 2 ∨ (2 ≤ pa ∧ 20 < pa))))))) := by
  unfold ConfOk at h
  omega

/-- The document's keeper as it was opened. -/
def refCells (kp me pa : Int) (d : List UInt8) (m : Mm) (g : Option Nat) (c : Nat) : Array Value :=
  #[.int .i64 kp, .int .i64 me, .int .i64 pa, .string ⟨d.toArray⟩, .int .i64 0, .bool false, .string ⟨#[]⟩, .int .i64 m.view, .int .i64 m.last, .slice (g.map fun k => ⟨k, 0, none⟩) m.ls.length c, .int .i64 0,
    .int .i64 0, .int .i64 0, .int .i64 0, .int .i64 0, .int .i64 0, .bool false, .bool false, .bool false, .bool false, .bool false, .bool false, .bool false, .bool false, .bool false, .bool false,
    .int .i64 0, .int .i64 0, .int .i64 0, .slice none 0 0, .int .i64 0, .int .i64 0, .int .i64 0, .slice none 0 0, .int .i64 0, .int .i64 0, .int .i64 0, .slice none 0 0, .int .i64 0, .int .i64 0, .int .i64 0, .slice none 0 0, .int .i64 0, .int .i64 0, .int .i64 0, .slice none 0 0,
    .bool false, .int .i64 0, .slice none 0 0]

/-- The document's Open. -/
def RefOpened (w : World) (kp me pa : Int) (s : List UInt8) (e : Ending) (w' : World) : Prop :=
  Below w.heap.size w w' ∧ ((¬ ConfOk kp me pa ∧ e = .returned (.tuple #[.pointer none, .int .i64 1])) ∨
    (ConfOk kp me pa ∧ ∃ K g c, e = .returned (.tuple #[.pointer (some ⟨K, 0, none⟩), .int .i64 0]) ∧ w'.heap[K]? = some (.cells (refCells kp me pa (s.take (readD s).2) (readD s).1 g c) 185 (0, 0)) ∧ OwnLines w w' g c (readD s).1.ls ∧ w.heap.size ≤ K ∧ g ≠ some K))

set_option maxRecDepth 100000 in
set_option maxHeartbeats 4000000 in
theorem refOpen_no (kp me pa : Int) (s : List UInt8) (w : World) (hc : ¬ ConfOk kp me pa) : Calls Tryz.prog 148 #[.agg #[.int .i64 kp, .int .i64 me, .int .i64 pa], .string ⟨s.toArray⟩] w (RefOpened w kp me pa s) := by
  have HE : Hid (∀ w', Below w.heap.size w w' → RefOpened w kp me pa s (.returned (.tuple #[.pointer none, .int .i64 1])) w') := fun w' hb => ⟨hb, .inl ⟨hc, rfl⟩⟩
  have h := conf_no hc
  clear hc
  rcases h with ⟨h1, h2⟩ | ⟨hk, h⟩
  · go_enter Tryz.func148, Tryz.ntmps148
    go_wp2
    all_goals (go_ret2; exact HE.out _ ((Below.refl _ _).alloc (Nat.le_refl _) _))
  rcases h with h | ⟨h0, h⟩
  · rcases hk with rfl | rfl
    all_goals
      go_enter Tryz.func148, Tryz.ntmps148
      go_wp2
      go_ret2
      exact HE.out _ ((Below.refl _ _).alloc (Nat.le_refl _) _)
  rcases h with h | ⟨h1, h⟩
  · rcases hk with rfl | rfl
    all_goals
      go_enter Tryz.func148, Tryz.ntmps148
      go_wp2
      go_ret2
      exact HE.out _ ((Below.refl _ _).alloc (Nat.le_refl _) _)
  rcases h with h | ⟨h2, h⟩
  all_goals
    rcases hk with rfl | rfl
    all_goals
      go_enter Tryz.func148, Tryz.ntmps148
      go_wp2
      go_ret2
      exact HE.out _ ((Below.refl _ _).alloc (Nat.le_refl _) _)

set_option maxRecDepth 100000 in
set_option maxHeartbeats 4000000 in
theorem refOpen_yes (kp me pa : Int) (s : List UInt8) (w : World) (hc : ConfOk kp me pa) (hn : s.length ≤ 10000000) : Calls Tryz.prog 148 #[.agg #[.int .i64 kp, .int .i64 me, .int .i64 pa], .string ⟨s.toArray⟩] w (RefOpened w kp me pa s) := by
  have HC := hid hc
  obtain ⟨hk, h0, h1, h2, h3⟩ := hc
  have hle := readD_le s
  rcases hk with rfl | rfl
  · go_enter Tryz.func148, Tryz.ntmps148
    go_wp2_with fail
    refine (read_any s _ hn).mono ?_
    rintro e w2 ⟨g, c, rfl, hol, hb2⟩
    have HX : Hid (∀ K w', w'.heap[K]? = some (.cells (refCells 3 me pa (s.take (readD s).2) (readD s).1 g c) 185 (0, 0)) → OwnLines w w' g c (readD s).1.ls → w.heap.size ≤ K → g ≠ some K → Below w.heap.size w w' → RefOpened w 3 me pa s (.returned (.tuple #[.pointer (some ⟨K, 0, none⟩), .int .i64 0])) w') := fun K w' a1 a2 a3 a4 a5 => ⟨a5, .inr ⟨HC.out, K, g, c, rfl, a1, a2, a3, a4⟩⟩
    have W2 : Hid (Below w.heap.size w w2) := ((Below.refl _ w).alloc (Nat.le_refl _) _).trans (hb2.mono (by simp))
    have HOL := hid (hol.base (u := w) (by simp))
    have HCB : Hid (MBox w.heap.size 63 (.int .i64 3) (.int .i64 me) (.int .i64 pa) w2) := MBox.below (heap_alloc_new w _) hb2
    have x1 := extr s 0 (readD s).2
    rw [List.drop_zero, Nat.sub_zero] at x1
    clear hol hb2
    generalize hm : (readD s).1 = m at *
    generalize hk : (readD s).2 = k at *
    generalize s.take k = d at *
    obtain ⟨view, last, ls⟩ := m
    have HMV : Hid ((Mm.mk view last ls).val (g.map fun x => (⟨x, 0, none⟩ : Addr)) c = .agg #[.int .i64 view, .int .i64 last, .slice (g.map fun x => ⟨x, 0, none⟩) ls.length c]) := rfl
    rw [HMV.out]
    have lk : (k : Int) ≤ (s.length : Int) := by omega
    have lk0 : (0 : Int) ≤ (k : Int) := by omega
    clear hm hk
    dsimp only at *
    go_wp2
    generalize hY : w2.alloc (.cells #[.int .i64 view, .int .i64 last, .slice (g.map fun x => ⟨x, 0, none⟩) ls.length c] 176) = Y
    have sY : Y.heap.size = w2.heap.size + 1 := by rw [← hY]; simp
    have b2Y : Below w2.heap.size w2 Y := by rw [← hY]; exact (Below.refl _ _).alloc (Nat.le_refl _) _
    have HTY : Hid (MBox w2.heap.size 176 (.int .i64 view) (.int .i64 last) (.slice (g.map fun k => ⟨k, 0, none⟩) ls.length c) Y) := by show MBox _ _ _ _ _ _; rw [← hY]; exact heap_alloc_new w2 _
    have HCY := hid (HCB.out.below b2Y)
    have BY : Hid (Below w.heap.size w Y) := W2.out.trans (b2Y.mono W2.out.size)
    have HOY : Hid (OwnLines w Y g c ls) := HOL.out.below b2Y
    have hgY : Hid (g ≠ some Y.heap.size) := fun e => by have := HOY.out.own.lt e; omega
    clear hY b2Y sY
    obtain ⟨y0, y1, y2, fy⟩ := mbox_cells HTY.out
    obtain ⟨c0, c1, c2, fc⟩ := mbox_cells HCY.out
    go_still_tail 6, (by kernel_rfl)
    go_wp2
    go_ret2
    refine HX.out _ _ ?_ ?_ BY.out.size hgY.out ?_
    · unfold refCells
      exact heap_alloc_new Y _
    · exact (HOY.out.below ((Below.refl _ _).alloc (Nat.le_refl _) _)).below ((Below.refl _ _).drew)
    · exact (BY.out.alloc BY.out.size _).drew
  · go_enter Tryz.func148, Tryz.ntmps148
    go_wp2_with fail
    refine (read_any s _ hn).mono ?_
    rintro e w2 ⟨g, c, rfl, hol, hb2⟩
    have HX : Hid (∀ K w', w'.heap[K]? = some (.cells (refCells 5 me pa (s.take (readD s).2) (readD s).1 g c) 185 (0, 0)) → OwnLines w w' g c (readD s).1.ls → w.heap.size ≤ K → g ≠ some K → Below w.heap.size w w' → RefOpened w 5 me pa s (.returned (.tuple #[.pointer (some ⟨K, 0, none⟩), .int .i64 0])) w') := fun K w' a1 a2 a3 a4 a5 => ⟨a5, .inr ⟨HC.out, K, g, c, rfl, a1, a2, a3, a4⟩⟩
    have W2 : Hid (Below w.heap.size w w2) := ((Below.refl _ w).alloc (Nat.le_refl _) _).trans (hb2.mono (by simp))
    have HOL := hid (hol.base (u := w) (by simp))
    have HCB : Hid (MBox w.heap.size 63 (.int .i64 5) (.int .i64 me) (.int .i64 pa) w2) := MBox.below (heap_alloc_new w _) hb2
    have x1 := extr s 0 (readD s).2
    rw [List.drop_zero, Nat.sub_zero] at x1
    clear hol hb2
    generalize hm : (readD s).1 = m at *
    generalize hk : (readD s).2 = k at *
    generalize s.take k = d at *
    obtain ⟨view, last, ls⟩ := m
    have HMV : Hid ((Mm.mk view last ls).val (g.map fun x => (⟨x, 0, none⟩ : Addr)) c = .agg #[.int .i64 view, .int .i64 last, .slice (g.map fun x => ⟨x, 0, none⟩) ls.length c]) := rfl
    rw [HMV.out]
    have lk : (k : Int) ≤ (s.length : Int) := by omega
    have lk0 : (0 : Int) ≤ (k : Int) := by omega
    clear hm hk
    dsimp only at *
    go_wp2
    generalize hY : w2.alloc (.cells #[.int .i64 view, .int .i64 last, .slice (g.map fun x => ⟨x, 0, none⟩) ls.length c] 176) = Y
    have sY : Y.heap.size = w2.heap.size + 1 := by rw [← hY]; simp
    have b2Y : Below w2.heap.size w2 Y := by rw [← hY]; exact (Below.refl _ _).alloc (Nat.le_refl _) _
    have HTY : Hid (MBox w2.heap.size 176 (.int .i64 view) (.int .i64 last) (.slice (g.map fun k => ⟨k, 0, none⟩) ls.length c) Y) := by show MBox _ _ _ _ _ _; rw [← hY]; exact heap_alloc_new w2 _
    have HCY := hid (HCB.out.below b2Y)
    have BY : Hid (Below w.heap.size w Y) := W2.out.trans (b2Y.mono W2.out.size)
    have HOY : Hid (OwnLines w Y g c ls) := HOL.out.below b2Y
    have hgY : Hid (g ≠ some Y.heap.size) := fun e => by have := HOY.out.own.lt e; omega
    clear hY b2Y sY
    obtain ⟨y0, y1, y2, fy⟩ := mbox_cells HTY.out
    obtain ⟨c0, c1, c2, fc⟩ := mbox_cells HCY.out
    go_still_tail 6, (by kernel_rfl)
    go_wp2
    go_ret2
    refine HX.out _ _ ?_ ?_ BY.out.size hgY.out ?_
    · unfold refCells
      exact heap_alloc_new Y _
    · exact (HOY.out.below ((Below.refl _ _).alloc (Nat.le_refl _) _)).below ((Below.refl _ _).drew)
    · exact (BY.out.alloc BY.out.size _).drew

end Go.Proofs.YtolififimldmlaaGreat

set_option linter.unusedVariables false
set_option linter.unusedSimpArgs false
namespace Go.Proofs.YtolififimldmlaaGreat
open Go.RowKit
attribute [local go_sem ↓] Go.wp_at_zero Go.wp_at_succ

set_option maxRecDepth 100000 in
set_option maxHeartbeats 4000000 in
theorem rightConfig_no (kp me pa : Int) (w : World) (hc : ¬ ConfOk kp me pa) : Calls Tryz.prog 45 #[.agg #[.int .i64 kp, .int .i64 me, .int .i64 pa]] w fun e w' => e = .returned (.bool false) ∧ Below w.heap.size w w' := by
  have h := conf_no hc
  clear hc
  rcases h with ⟨h1, h2⟩ | ⟨hk, h⟩
  · go_enter Tryz.func45, Tryz.ntmps45
    go_wp2
    all_goals (go_ret; refine ⟨ret_bool (by simp_all), (Below.refl _ _).alloc (Nat.le_refl _) _⟩)
  rcases h with h | ⟨h0, h⟩
  · rcases hk with rfl | rfl
    all_goals
      go_enter Tryz.func45, Tryz.ntmps45
      go_wp2
      go_ret
      refine ⟨ret_bool (by simp; try omega), (Below.refl _ _).alloc (Nat.le_refl _) _⟩
  rcases h with h | ⟨h1, h⟩
  · rcases hk with rfl | rfl
    all_goals
      go_enter Tryz.func45, Tryz.ntmps45
      go_wp2
      go_ret
      refine ⟨ret_bool (by simp; try omega), (Below.refl _ _).alloc (Nat.le_refl _) _⟩
  rcases h with h | ⟨h2, h⟩
  all_goals
    rcases hk with rfl | rfl
    all_goals
      go_enter Tryz.func45, Tryz.ntmps45
      go_wp2
      go_ret
      refine ⟨ret_bool (by simp; try omega), (Below.refl _ _).alloc (Nat.le_refl _) _⟩

set_option maxRecDepth 100000 in
set_option maxHeartbeats 4000000 in
theorem rightConfig_yes (kp me pa : Int) (w : World) (hc : ConfOk kp me pa) : Calls Tryz.prog 45 #[.agg #[.int .i64 kp, .int .i64 me, .int .i64 pa]] w fun e w' => e = .returned (.bool true) ∧ Below w.heap.size w w' := by
  obtain ⟨hk, h0, h1, h2, h3⟩ := hc
  rcases hk with rfl | rfl
  all_goals
    go_enter Tryz.func45, Tryz.ntmps45
    go_wp2
    go_ret
    refine ⟨ret_bool (by simp_all), (Below.refl _ _).alloc (Nat.le_refl _) _⟩

end Go.Proofs.YtolififimldmlaaGreat
