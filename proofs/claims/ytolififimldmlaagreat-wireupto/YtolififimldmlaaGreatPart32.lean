import Derived.Test.YtolififimldmlaaGreatPart31
import Derived.Test.YtolififimldmlaaGreatPart18
set_option linter.unusedVariables false
set_option linter.unusedSimpArgs false
namespace Go.Proofs.YtolififimldmlaaGreat
open Go.RowKit
attribute [local go_sem ↓] Go.wp_at_zero Go.wp_at_succ

/-- The bytes of a frame, as the program makes them. -/
def BytesRet (w : World) (f : Fr) (e : Ending) (w' : World) : Prop := ∃ g c, e = .returned (sl g (packS f).length c) ∧ OwnBytes w w' g c (packS f) ∧ Below w.heap.size w w'

theorem methodTold (v : Value) (w : World) : (method 436 211 v "parley/frames.plain").run Tryz.prog w = .ok (285, v) w := by kernel_rfl
set_option maxRecDepth 100000 in
set_option maxHeartbeats 4000000 in
theorem plainTold (view place c t : Int) (s : List UInt8) (w : World) : Calls Tryz.prog 285 #[.agg #[.int .i64 view, .int .i64 place, .int .i64 c, .int .i64 t, .string ⟨s.toArray⟩]] w fun e w' => e = .returned ((⟨9, 0, view, place, 0, 0, ⟨c, t, s⟩, []⟩ : Fr).val none 0) ∧ Below w.heap.size w w' := by
  unfold Fr.val sla
  try unfold Ln.zero
  dsimp only
  go_enter Tryz.func285, Tryz.ntmps285
  go_wp2
  refine bodyPost_ret (v := (⟨9, 0, view, place, 0, 0, ⟨c, t, s⟩, []⟩ : Fr).val none 0) ?_ rfl ⟨rfl, ((Below.refl _ _).alloc (Nat.le_refl _) _).alloc (by rw [World.size_alloc]; omega) _⟩
  unfold Fr.val sla
  try unfold Ln.zero
  dsimp only
  simp [results, Tryz.results285, go_sem, World.cell?_alloc_at, World.cell?_alloc_new]
set_option maxRecDepth 100000 in
set_option maxHeartbeats 4000000 in
theorem bytesTold (view place c t : Int) (s : List UInt8) (w : World) : Calls Tryz.prog 176 #[.iface 211 (.agg #[.int .i64 view, .int .i64 place, .int .i64 c, .int .i64 t, .string ⟨s.toArray⟩])] w (BytesRet w ⟨9, 0, view, place, 0, 0, ⟨c, t, s⟩, []⟩) := by
  have hm := methodTold
  have HP : Hid (∀ z, Below w.heap.size w z → Calls Tryz.prog 32 #[(⟨9, 0, view, place, 0, 0, ⟨c, t, s⟩, []⟩ : Fr).val none 0] z (PackRet z ⟨9, 0, view, place, 0, 0, ⟨c, t, s⟩, []⟩)) := fun z hz => framesPack_go _ _ _ z (fun j hj => absurd hj (by simp)) (by simp) (by simp)
  have HX : Hid (∀ gq cq w', OwnBytes w w' gq cq (packS ⟨9, 0, view, place, 0, 0, ⟨c, t, s⟩, []⟩) → Below w.heap.size w w' → BytesRet w ⟨9, 0, view, place, 0, 0, ⟨c, t, s⟩, []⟩ (.returned (.slice (gq.map fun k => ⟨k, 0, none⟩) (packS ⟨9, 0, view, place, 0, 0, ⟨c, t, s⟩, []⟩).length cq)) w') := fun gq cq w' h1 h2 => ⟨gq, cq, rfl, h1, h2⟩
  go_enter Tryz.func176, Tryz.ntmps176
  go_wp2_with fail
  refine (plainTold view place c t s w).mono ?_
  rintro e w1 ⟨rfl, hb1⟩
  have HB1 := hid hb1
  clear hb1
  go_wp2_with fail
  refine (HP.out _ HB1.out).mono ?_
  rintro e w2 ⟨gq, cq, rfl, ho, hb2⟩
  have HO := hid (ho.base (u := w) HB1.out.size)
  have HB2 := hid (HB1.out.trans (hb2.mono HB1.out.size))
  clear ho hb2 hm HP
  generalize packS _ = pb at *
  unfold sl
  go_wp2
  go_ret
  exact HX.out gq cq _ HO.out HB2.out

theorem methodPrepare (v : Value) (w : World) : (method 436 153 v "parley/frames.plain").run Tryz.prog w = .ok (278, v) w := by kernel_rfl
set_option maxRecDepth 100000 in
set_option maxHeartbeats 4000000 in
theorem plainPrepare (frm view place agreed c t : Int) (s : List UInt8) (w : World) : Calls Tryz.prog 278 #[.agg #[.int .i64 frm, .int .i64 view, .int .i64 place, .int .i64 agreed, .int .i64 c, .int .i64 t, .string ⟨s.toArray⟩]] w fun e w' => e = .returned ((⟨2, frm, view, place, agreed, 0, ⟨c, t, s⟩, []⟩ : Fr).val none 0) ∧ Below w.heap.size w w' := by
  unfold Fr.val sla
  try unfold Ln.zero
  dsimp only
  go_enter Tryz.func278, Tryz.ntmps278
  go_wp2
  refine bodyPost_ret (v := (⟨2, frm, view, place, agreed, 0, ⟨c, t, s⟩, []⟩ : Fr).val none 0) ?_ rfl ⟨rfl, ((Below.refl _ _).alloc (Nat.le_refl _) _).alloc (by rw [World.size_alloc]; omega) _⟩
  unfold Fr.val sla
  try unfold Ln.zero
  dsimp only
  simp [results, Tryz.results278, go_sem, World.cell?_alloc_at, World.cell?_alloc_new]
set_option maxRecDepth 100000 in
set_option maxHeartbeats 4000000 in
theorem bytesPrepare (frm view place agreed c t : Int) (s : List UInt8) (w : World) : Calls Tryz.prog 176 #[.iface 153 (.agg #[.int .i64 frm, .int .i64 view, .int .i64 place, .int .i64 agreed, .int .i64 c, .int .i64 t, .string ⟨s.toArray⟩])] w (BytesRet w ⟨2, frm, view, place, agreed, 0, ⟨c, t, s⟩, []⟩) := by
  have hm := methodPrepare
  have HP : Hid (∀ z, Below w.heap.size w z → Calls Tryz.prog 32 #[(⟨2, frm, view, place, agreed, 0, ⟨c, t, s⟩, []⟩ : Fr).val none 0] z (PackRet z ⟨2, frm, view, place, agreed, 0, ⟨c, t, s⟩, []⟩)) := fun z hz => framesPack_go _ _ _ z (fun j hj => absurd hj (by simp)) (by simp) (by simp)
  have HX : Hid (∀ gq cq w', OwnBytes w w' gq cq (packS ⟨2, frm, view, place, agreed, 0, ⟨c, t, s⟩, []⟩) → Below w.heap.size w w' → BytesRet w ⟨2, frm, view, place, agreed, 0, ⟨c, t, s⟩, []⟩ (.returned (.slice (gq.map fun k => ⟨k, 0, none⟩) (packS ⟨2, frm, view, place, agreed, 0, ⟨c, t, s⟩, []⟩).length cq)) w') := fun gq cq w' h1 h2 => ⟨gq, cq, rfl, h1, h2⟩
  go_enter Tryz.func176, Tryz.ntmps176
  go_wp2_with fail
  refine (plainPrepare frm view place agreed c t s w).mono ?_
  rintro e w1 ⟨rfl, hb1⟩
  have HB1 := hid hb1
  clear hb1
  go_wp2_with fail
  refine (HP.out _ HB1.out).mono ?_
  rintro e w2 ⟨gq, cq, rfl, ho, hb2⟩
  have HO := hid (ho.base (u := w) HB1.out.size)
  have HB2 := hid (HB1.out.trans (hb2.mono HB1.out.size))
  clear ho hb2 hm HP
  generalize packS _ = pb at *
  unfold sl
  go_wp2
  go_ret
  exact HX.out gq cq _ HO.out HB2.out

theorem methodHold (v : Value) (w : World) : (method 436 204 v "parley/frames.plain").run Tryz.prog w = .ok (281, v) w := by kernel_rfl
set_option maxRecDepth 100000 in
set_option maxHeartbeats 4000000 in
theorem plainHold (frm view place : Int) (w : World) : Calls Tryz.prog 281 #[.agg #[.int .i64 frm, .int .i64 view, .int .i64 place]] w fun e w' => e = .returned ((⟨3, frm, view, place, 0, 0, Ln.zero, []⟩ : Fr).val none 0) ∧ Below w.heap.size w w' := by
  unfold Fr.val sla
  try unfold Ln.zero
  dsimp only
  go_enter Tryz.func281, Tryz.ntmps281
  go_wp2
  refine bodyPost_ret (v := (⟨3, frm, view, place, 0, 0, Ln.zero, []⟩ : Fr).val none 0) ?_ rfl ⟨rfl, ((Below.refl _ _).alloc (Nat.le_refl _) _).alloc (by rw [World.size_alloc]; omega) _⟩
  unfold Fr.val sla
  try unfold Ln.zero
  dsimp only
  simp [results, Tryz.results281, go_sem, World.cell?_alloc_at, World.cell?_alloc_new]
set_option maxRecDepth 100000 in
set_option maxHeartbeats 4000000 in
theorem bytesHold (frm view place : Int) (w : World) : Calls Tryz.prog 176 #[.iface 204 (.agg #[.int .i64 frm, .int .i64 view, .int .i64 place])] w (BytesRet w ⟨3, frm, view, place, 0, 0, Ln.zero, []⟩) := by
  have hm := methodHold
  have HP : Hid (∀ z, Below w.heap.size w z → Calls Tryz.prog 32 #[(⟨3, frm, view, place, 0, 0, Ln.zero, []⟩ : Fr).val none 0] z (PackRet z ⟨3, frm, view, place, 0, 0, Ln.zero, []⟩)) := fun z hz => framesPack_go _ _ _ z (fun j hj => absurd hj (by simp)) (by simp) (by simp)
  have HX : Hid (∀ gq cq w', OwnBytes w w' gq cq (packS ⟨3, frm, view, place, 0, 0, Ln.zero, []⟩) → Below w.heap.size w w' → BytesRet w ⟨3, frm, view, place, 0, 0, Ln.zero, []⟩ (.returned (.slice (gq.map fun k => ⟨k, 0, none⟩) (packS ⟨3, frm, view, place, 0, 0, Ln.zero, []⟩).length cq)) w') := fun gq cq w' h1 h2 => ⟨gq, cq, rfl, h1, h2⟩
  go_enter Tryz.func176, Tryz.ntmps176
  go_wp2_with fail
  refine (plainHold frm view place w).mono ?_
  rintro e w1 ⟨rfl, hb1⟩
  have HB1 := hid hb1
  clear hb1
  go_wp2_with fail
  refine (HP.out _ HB1.out).mono ?_
  rintro e w2 ⟨gq, cq, rfl, ho, hb2⟩
  have HO := hid (ho.base (u := w) HB1.out.size)
  have HB2 := hid (HB1.out.trans (hb2.mono HB1.out.size))
  clear ho hb2 hm HP
  generalize packS _ = pb at *
  unfold sl
  go_wp2
  go_ret
  exact HX.out gq cq _ HO.out HB2.out

theorem methodBeat (v : Value) (w : World) : (method 436 156 v "parley/frames.plain").run Tryz.prog w = .ok (279, v) w := by kernel_rfl
set_option maxRecDepth 100000 in
set_option maxHeartbeats 4000000 in
theorem plainBeat (frm view agreed : Int) (w : World) : Calls Tryz.prog 279 #[.agg #[.int .i64 frm, .int .i64 view, .int .i64 agreed]] w fun e w' => e = .returned ((⟨4, frm, view, 0, agreed, 0, Ln.zero, []⟩ : Fr).val none 0) ∧ Below w.heap.size w w' := by
  unfold Fr.val sla
  try unfold Ln.zero
  dsimp only
  go_enter Tryz.func279, Tryz.ntmps279
  go_wp2
  refine bodyPost_ret (v := (⟨4, frm, view, 0, agreed, 0, Ln.zero, []⟩ : Fr).val none 0) ?_ rfl ⟨rfl, ((Below.refl _ _).alloc (Nat.le_refl _) _).alloc (by rw [World.size_alloc]; omega) _⟩
  unfold Fr.val sla
  try unfold Ln.zero
  dsimp only
  simp [results, Tryz.results279, go_sem, World.cell?_alloc_at, World.cell?_alloc_new]
set_option maxRecDepth 100000 in
set_option maxHeartbeats 4000000 in
theorem bytesBeat (frm view agreed : Int) (w : World) : Calls Tryz.prog 176 #[.iface 156 (.agg #[.int .i64 frm, .int .i64 view, .int .i64 agreed])] w (BytesRet w ⟨4, frm, view, 0, agreed, 0, Ln.zero, []⟩) := by
  have hm := methodBeat
  have HP : Hid (∀ z, Below w.heap.size w z → Calls Tryz.prog 32 #[(⟨4, frm, view, 0, agreed, 0, Ln.zero, []⟩ : Fr).val none 0] z (PackRet z ⟨4, frm, view, 0, agreed, 0, Ln.zero, []⟩)) := fun z hz => framesPack_go _ _ _ z (fun j hj => absurd hj (by simp)) (by simp) (by simp)
  have HX : Hid (∀ gq cq w', OwnBytes w w' gq cq (packS ⟨4, frm, view, 0, agreed, 0, Ln.zero, []⟩) → Below w.heap.size w w' → BytesRet w ⟨4, frm, view, 0, agreed, 0, Ln.zero, []⟩ (.returned (.slice (gq.map fun k => ⟨k, 0, none⟩) (packS ⟨4, frm, view, 0, agreed, 0, Ln.zero, []⟩).length cq)) w') := fun gq cq w' h1 h2 => ⟨gq, cq, rfl, h1, h2⟩
  go_enter Tryz.func176, Tryz.ntmps176
  go_wp2_with fail
  refine (plainBeat frm view agreed w).mono ?_
  rintro e w1 ⟨rfl, hb1⟩
  have HB1 := hid hb1
  clear hb1
  go_wp2_with fail
  refine (HP.out _ HB1.out).mono ?_
  rintro e w2 ⟨gq, cq, rfl, ho, hb2⟩
  have HO := hid (ho.base (u := w) HB1.out.size)
  have HB2 := hid (HB1.out.trans (hb2.mono HB1.out.size))
  clear ho hb2 hm HP
  generalize packS _ = pb at *
  unfold sl
  go_wp2
  go_ret
  exact HX.out gq cq _ HO.out HB2.out

theorem methodChange (v : Value) (w : World) : (method 436 206 v "parley/frames.plain").run Tryz.prog w = .ok (282, v) w := by kernel_rfl
set_option maxRecDepth 100000 in
set_option maxHeartbeats 4000000 in
theorem plainChange (frm view : Int) (w : World) : Calls Tryz.prog 282 #[.agg #[.int .i64 frm, .int .i64 view]] w fun e w' => e = .returned ((⟨5, frm, view, 0, 0, 0, Ln.zero, []⟩ : Fr).val none 0) ∧ Below w.heap.size w w' := by
  unfold Fr.val sla
  try unfold Ln.zero
  dsimp only
  go_enter Tryz.func282, Tryz.ntmps282
  go_wp2
  refine bodyPost_ret (v := (⟨5, frm, view, 0, 0, 0, Ln.zero, []⟩ : Fr).val none 0) ?_ rfl ⟨rfl, ((Below.refl _ _).alloc (Nat.le_refl _) _).alloc (by rw [World.size_alloc]; omega) _⟩
  unfold Fr.val sla
  try unfold Ln.zero
  dsimp only
  simp [results, Tryz.results282, go_sem, World.cell?_alloc_at, World.cell?_alloc_new]
set_option maxRecDepth 100000 in
set_option maxHeartbeats 4000000 in
theorem bytesChange (frm view : Int) (w : World) : Calls Tryz.prog 176 #[.iface 206 (.agg #[.int .i64 frm, .int .i64 view])] w (BytesRet w ⟨5, frm, view, 0, 0, 0, Ln.zero, []⟩) := by
  have hm := methodChange
  have HP : Hid (∀ z, Below w.heap.size w z → Calls Tryz.prog 32 #[(⟨5, frm, view, 0, 0, 0, Ln.zero, []⟩ : Fr).val none 0] z (PackRet z ⟨5, frm, view, 0, 0, 0, Ln.zero, []⟩)) := fun z hz => framesPack_go _ _ _ z (fun j hj => absurd hj (by simp)) (by simp) (by simp)
  have HX : Hid (∀ gq cq w', OwnBytes w w' gq cq (packS ⟨5, frm, view, 0, 0, 0, Ln.zero, []⟩) → Below w.heap.size w w' → BytesRet w ⟨5, frm, view, 0, 0, 0, Ln.zero, []⟩ (.returned (.slice (gq.map fun k => ⟨k, 0, none⟩) (packS ⟨5, frm, view, 0, 0, 0, Ln.zero, []⟩).length cq)) w') := fun gq cq w' h1 h2 => ⟨gq, cq, rfl, h1, h2⟩
  go_enter Tryz.func176, Tryz.ntmps176
  go_wp2_with fail
  refine (plainChange frm view w).mono ?_
  rintro e w1 ⟨rfl, hb1⟩
  have HB1 := hid hb1
  clear hb1
  go_wp2_with fail
  refine (HP.out _ HB1.out).mono ?_
  rintro e w2 ⟨gq, cq, rfl, ho, hb2⟩
  have HO := hid (ho.base (u := w) HB1.out.size)
  have HB2 := hid (HB1.out.trans (hb2.mono HB1.out.size))
  clear ho hb2 hm HP
  generalize packS _ = pb at *
  unfold sl
  go_wp2
  go_ret
  exact HX.out gq cq _ HO.out HB2.out

theorem methodYield (v : Value) (w : World) : (method 436 208 v "parley/frames.plain").run Tryz.prog w = .ok (283, v) w := by kernel_rfl
set_option maxRecDepth 100000 in
set_option maxHeartbeats 4000000 in
theorem plainYield (frm view agreed last : Int) (ls : List Ln) (a : Option Addr) (cap : Nat) (w : World) : Calls Tryz.prog 283 #[.agg #[.int .i64 frm, .int .i64 view, .int .i64 agreed, .int .i64 last, .slice a ls.length cap]] w fun e w' => e = .returned ((⟨6, frm, view, 0, agreed, last, Ln.zero, ls⟩ : Fr).val a cap) ∧ Below w.heap.size w w' := by
  unfold Fr.val sla
  try unfold Ln.zero
  dsimp only
  go_enter Tryz.func283, Tryz.ntmps283
  go_wp2
  refine bodyPost_ret (v := (⟨6, frm, view, 0, agreed, last, Ln.zero, ls⟩ : Fr).val a cap) ?_ rfl ⟨rfl, ((Below.refl _ _).alloc (Nat.le_refl _) _).alloc (by rw [World.size_alloc]; omega) _⟩
  unfold Fr.val sla
  try unfold Ln.zero
  dsimp only
  simp [results, Tryz.results283, go_sem, World.cell?_alloc_at, World.cell?_alloc_new]
set_option maxRecDepth 100000 in
set_option maxHeartbeats 4000000 in
theorem bytesYield (frm view agreed last : Int) (ls : List Ln) (a : Option Addr) (cap : Nat) (w : World) (hl : LinesAt w a ls) (hn : ls.length ≤ 100000000) (hcap : ls.length ≤ cap) : Calls Tryz.prog 176 #[.iface 208 (.agg #[.int .i64 frm, .int .i64 view, .int .i64 agreed, .int .i64 last, .slice a ls.length cap])] w (BytesRet w ⟨6, frm, view, 0, agreed, last, Ln.zero, ls⟩) := by
  have hm := methodYield
  have HP : Hid (∀ z, Below w.heap.size w z → Calls Tryz.prog 32 #[(⟨6, frm, view, 0, agreed, last, Ln.zero, ls⟩ : Fr).val a cap] z (PackRet z ⟨6, frm, view, 0, agreed, last, Ln.zero, ls⟩)) := fun z hz => framesPack_go _ _ _ z (hl.below hz) (hn) (hcap)
  have HX : Hid (∀ gq cq w', OwnBytes w w' gq cq (packS ⟨6, frm, view, 0, agreed, last, Ln.zero, ls⟩) → Below w.heap.size w w' → BytesRet w ⟨6, frm, view, 0, agreed, last, Ln.zero, ls⟩ (.returned (.slice (gq.map fun k => ⟨k, 0, none⟩) (packS ⟨6, frm, view, 0, agreed, last, Ln.zero, ls⟩).length cq)) w') := fun gq cq w' h1 h2 => ⟨gq, cq, rfl, h1, h2⟩
  go_enter Tryz.func176, Tryz.ntmps176
  go_wp2_with fail
  refine (plainYield frm view agreed last ls a cap w).mono ?_
  rintro e w1 ⟨rfl, hb1⟩
  have HB1 := hid hb1
  clear hb1
  go_wp2_with fail
  refine (HP.out _ HB1.out).mono ?_
  rintro e w2 ⟨gq, cq, rfl, ho, hb2⟩
  have HO := hid (ho.base (u := w) HB1.out.size)
  have HB2 := hid (HB1.out.trans (hb2.mono HB1.out.size))
  clear ho hb2 hm HP
  generalize packS _ = pb at *
  unfold sl
  go_wp2
  go_ret
  exact HX.out gq cq _ HO.out HB2.out

theorem methodBegin (v : Value) (w : World) : (method 436 158 v "parley/frames.plain").run Tryz.prog w = .ok (280, v) w := by kernel_rfl
set_option maxRecDepth 100000 in
set_option maxHeartbeats 4000000 in
theorem plainBegin (frm view agreed : Int) (ls : List Ln) (a : Option Addr) (cap : Nat) (w : World) : Calls Tryz.prog 280 #[.agg #[.int .i64 frm, .int .i64 view, .int .i64 agreed, .slice a ls.length cap]] w fun e w' => e = .returned ((⟨7, frm, view, 0, agreed, 0, Ln.zero, ls⟩ : Fr).val a cap) ∧ Below w.heap.size w w' := by
  unfold Fr.val sla
  try unfold Ln.zero
  dsimp only
  go_enter Tryz.func280, Tryz.ntmps280
  go_wp2
  refine bodyPost_ret (v := (⟨7, frm, view, 0, agreed, 0, Ln.zero, ls⟩ : Fr).val a cap) ?_ rfl ⟨rfl, ((Below.refl _ _).alloc (Nat.le_refl _) _).alloc (by rw [World.size_alloc]; omega) _⟩
  unfold Fr.val sla
  try unfold Ln.zero
  dsimp only
  simp [results, Tryz.results280, go_sem, World.cell?_alloc_at, World.cell?_alloc_new]
set_option maxRecDepth 100000 in
set_option maxHeartbeats 4000000 in
theorem bytesBegin (frm view agreed : Int) (ls : List Ln) (a : Option Addr) (cap : Nat) (w : World) (hl : LinesAt w a ls) (hn : ls.length ≤ 100000000) (hcap : ls.length ≤ cap) : Calls Tryz.prog 176 #[.iface 158 (.agg #[.int .i64 frm, .int .i64 view, .int .i64 agreed, .slice a ls.length cap])] w (BytesRet w ⟨7, frm, view, 0, agreed, 0, Ln.zero, ls⟩) := by
  have hm := methodBegin
  have HP : Hid (∀ z, Below w.heap.size w z → Calls Tryz.prog 32 #[(⟨7, frm, view, 0, agreed, 0, Ln.zero, ls⟩ : Fr).val a cap] z (PackRet z ⟨7, frm, view, 0, agreed, 0, Ln.zero, ls⟩)) := fun z hz => framesPack_go _ _ _ z (hl.below hz) (hn) (hcap)
  have HX : Hid (∀ gq cq w', OwnBytes w w' gq cq (packS ⟨7, frm, view, 0, agreed, 0, Ln.zero, ls⟩) → Below w.heap.size w w' → BytesRet w ⟨7, frm, view, 0, agreed, 0, Ln.zero, ls⟩ (.returned (.slice (gq.map fun k => ⟨k, 0, none⟩) (packS ⟨7, frm, view, 0, agreed, 0, Ln.zero, ls⟩).length cq)) w') := fun gq cq w' h1 h2 => ⟨gq, cq, rfl, h1, h2⟩
  go_enter Tryz.func176, Tryz.ntmps176
  go_wp2_with fail
  refine (plainBegin frm view agreed ls a cap w).mono ?_
  rintro e w1 ⟨rfl, hb1⟩
  have HB1 := hid hb1
  clear hb1
  go_wp2_with fail
  refine (HP.out _ HB1.out).mono ?_
  rintro e w2 ⟨gq, cq, rfl, ho, hb2⟩
  have HO := hid (ho.base (u := w) HB1.out.size)
  have HB2 := hid (HB1.out.trans (hb2.mono HB1.out.size))
  clear ho hb2 hm HP
  generalize packS _ = pb at *
  unfold sl
  go_wp2
  go_ret
  exact HX.out gq cq _ HO.out HB2.out

theorem methodLag (v : Value) (w : World) : (method 436 209 v "parley/frames.plain").run Tryz.prog w = .ok (284, v) w := by kernel_rfl
set_option maxRecDepth 100000 in
set_option maxHeartbeats 4000000 in
theorem plainLag (frm view : Int) (w : World) : Calls Tryz.prog 284 #[.agg #[.int .i64 frm, .int .i64 view]] w fun e w' => e = .returned ((⟨8, frm, view, 0, 0, 0, Ln.zero, []⟩ : Fr).val none 0) ∧ Below w.heap.size w w' := by
  unfold Fr.val sla
  try unfold Ln.zero
  dsimp only
  go_enter Tryz.func284, Tryz.ntmps284
  go_wp2
  refine bodyPost_ret (v := (⟨8, frm, view, 0, 0, 0, Ln.zero, []⟩ : Fr).val none 0) ?_ rfl ⟨rfl, ((Below.refl _ _).alloc (Nat.le_refl _) _).alloc (by rw [World.size_alloc]; omega) _⟩
  unfold Fr.val sla
  try unfold Ln.zero
  dsimp only
  simp [results, Tryz.results284, go_sem, World.cell?_alloc_at, World.cell?_alloc_new]
set_option maxRecDepth 100000 in
set_option maxHeartbeats 4000000 in
theorem bytesLag (frm view : Int) (w : World) : Calls Tryz.prog 176 #[.iface 209 (.agg #[.int .i64 frm, .int .i64 view])] w (BytesRet w ⟨8, frm, view, 0, 0, 0, Ln.zero, []⟩) := by
  have hm := methodLag
  have HP : Hid (∀ z, Below w.heap.size w z → Calls Tryz.prog 32 #[(⟨8, frm, view, 0, 0, 0, Ln.zero, []⟩ : Fr).val none 0] z (PackRet z ⟨8, frm, view, 0, 0, 0, Ln.zero, []⟩)) := fun z hz => framesPack_go _ _ _ z (fun j hj => absurd hj (by simp)) (by simp) (by simp)
  have HX : Hid (∀ gq cq w', OwnBytes w w' gq cq (packS ⟨8, frm, view, 0, 0, 0, Ln.zero, []⟩) → Below w.heap.size w w' → BytesRet w ⟨8, frm, view, 0, 0, 0, Ln.zero, []⟩ (.returned (.slice (gq.map fun k => ⟨k, 0, none⟩) (packS ⟨8, frm, view, 0, 0, 0, Ln.zero, []⟩).length cq)) w') := fun gq cq w' h1 h2 => ⟨gq, cq, rfl, h1, h2⟩
  go_enter Tryz.func176, Tryz.ntmps176
  go_wp2_with fail
  refine (plainLag frm view w).mono ?_
  rintro e w1 ⟨rfl, hb1⟩
  have HB1 := hid hb1
  clear hb1
  go_wp2_with fail
  refine (HP.out _ HB1.out).mono ?_
  rintro e w2 ⟨gq, cq, rfl, ho, hb2⟩
  have HO := hid (ho.base (u := w) HB1.out.size)
  have HB2 := hid (HB1.out.trans (hb2.mono HB1.out.size))
  clear ho hb2 hm HP
  generalize packS _ = pb at *
  unfold sl
  go_wp2
  go_ret
  exact HX.out gq cq _ HO.out HB2.out

end Go.Proofs.YtolififimldmlaaGreat
