import Derived.Test.YtolififimldmlaaGreatPart46
import Derived.Test.YtolififimldmlaaGreatPart45
import Derived.Test.YtolififimldmlaaGreatPart42
set_option linter.unusedVariables false
set_option linter.unusedSimpArgs false
namespace Go.Proofs.YtolififimldmlaaGreat
open Go.RowKit
attribute [local go_sem ↓] Go.wp_at_zero Go.wp_at_succ

theorem packS_pos {f : Fr} (h : f.ok = true) : 0 < (packS f).length := by
  unfold packS Fr.bytes withChk
  rw [if_pos h]; simp

/-- A right frame without lines is packed. -/
theorem packKnown (f : Fr) (hok : f.ok = true) (hl : f.lines = []) (z : World) : Calls Tryz.prog 15 #[f.val none 0] z fun e w' => ∃ g c, e = .returned (.tuple #[.slice (some ⟨g, 0, none⟩) (packS f).length c, .int .i64 0]) ∧ BytesIn w' (some ⟨g, 0, none⟩) (packS f) ∧ (packS f).length ≤ c ∧ z.heap.size ≤ g ∧ Below z.heap.size z w' := by
  refine (packSaid_ f none 0 z (by rw [hl]; exact fun j hj => absurd hj (Nat.not_lt_zero _)) (by rw [hl]; exact Nat.zero_le _) (by rw [hl]; exact Nat.le_refl _)).mono ?_
  rintro e w' ⟨g, c, rfl, ho, hb⟩
  have hp := packS_pos hok
  obtain ⟨k, rfl, _⟩ := ho.at_ 0 hp
  refine ⟨k, c, ?_, fun j hj => ?_, ?_, ho.new k rfl, hb⟩
  · unfold packE; rw [if_pos hok]; rfl
  · obtain ⟨k', e, hc⟩ := ho.at_ j hj
    cases e
    exact ⟨k, 0, rfl, by rw [Nat.zero_add]; exact hc⟩
  · rcases ho.own with ⟨e, _⟩ | ⟨g', cur, _, _, _, hle, _⟩
    · cases e
    · exact hle

def sayF : Fr := ⟨1, 0, 0, 0, 0, 0, ⟨1, 1, [107]⟩, []⟩
def holdF1 : Fr := ⟨3, 2, 0, 1, 0, 0, Ln.zero, []⟩
theorem sayF_ok : sayF.ok = true := by decide +kernel
theorem holdF1_ok : holdF1.ok = true := by decide +kernel

def known2 (gd : Option Nat) (cd : Nat) (gl : Option Nat) (cl : Nat) : PV := (PV.fresh 3 0 5).more sayF.line 0 gd cd gl cl
def hs2 : Nat → Int := holdsSet (fun _ => 0) 2 1
def known3 (gd : Option Nat) (cd : Nat) (gl : Option Nat) (cl : Nat) : PV := { known2 gd cd gl cl with hs := hs2, ag := 1 }

theorem heard1 (B : Nat) (w : World) (h : (PV.fresh 3 0 5).At w B) (gs cs : Nat) (hb : BytesIn w (some ⟨gs, 0, none⟩) (packS sayF)) (hc : (packS sayF).length ≤ cs) :
    Calls Tryz.prog 21 #[.pointer (some ⟨B, 0, none⟩), .slice (some ⟨gs, 0, none⟩) (packS sayF).length cs] w fun e w' => ∃ a c gd cd gl cl, e = .returned (.tuple #[.slice a 2 c, .int .i64 0]) ∧ Chg w w' B (PV.fresh 3 0 5) (known2 gd cd gl cl) := by
  refine (heardSayOkV (PV.fresh 3 0 5) B w h 3 rfl (.inl rfl) (by decide) rfl rfl rfl 0 (.inl ⟨rfl, rfl⟩) (by decide) (by decide) gs 0 cs (packS sayF) hb (Nat.le_trans (packS_len sayF) (by decide)) hc sayF (pack_unpack sayF sayF_ok) rfl ⟨by decide, by decide, by decide, by decide, by decide⟩ (by decide)).mono ?_
  rintro e w' ⟨g, c, gs', cs', gd, cd, gl, cl, rfl, _, h2⟩
  exact ⟨_, c, gd, cd, gl, cl, rfl, h2⟩

theorem heard2 (gd : Option Nat) (cd : Nat) (gl : Option Nat) (cl : Nat) (B : Nat) (w : World) (h : (known2 gd cd gl cl).At w B) (gs cs : Nat) (hb : BytesIn w (some ⟨gs, 0, none⟩) (packS holdF1)) (hc : (packS holdF1).length ≤ cs) :
    Calls Tryz.prog 21 #[.pointer (some ⟨B, 0, none⟩), .slice (some ⟨gs, 0, none⟩) (packS holdF1).length cs] w fun e w' => ∃ g c, e = .returned (.tuple #[.slice (some ⟨g, 0, none⟩) 1 c, .int .i64 0]) ∧ w'.cell? ⟨g, 0, none⟩ = some (.bool true) ∧ w'.cell? ⟨g, 1, none⟩ = some (.int .i64 1) ∧ Chg w w' B (known2 gd cd gl cl) (known3 gd cd gl cl) := by
  refine (heardHoldV (known2 gd cd gl cl) B w h 3 rfl (.inl rfl) (by show (0 : Int) ≤ 0; decide) rfl rfl ⟨by show (0 : Int) ≤ 0; decide, by show (0 : Int) < 3; decide⟩ rfl (by show 1 ≤ 20; decide) (Nat.zero_le _) gs 0 cs (packS holdF1) hb (Nat.le_trans (packS_len holdF1) (by decide)) hc holdF1 (pack_unpack holdF1 holdF1_ok) rfl rfl ⟨by decide, by decide, by show (2 : Int) ≠ 0; decide⟩ (by show (1 : Int) ≤ (1 : Nat); decide) hs2 rfl 1 (by show heldFew hs2 0 3 = 1; decide) (by show 1 ≤ 1; decide)).mono ?_
  rintro e w' ⟨g, c, gs', cs', rfl, ho, h2⟩
  obtain ⟨k, rfl, c0, c1, _⟩ := ho.at_ 0 (by show 0 < 1; decide)
  exact ⟨k, c, rfl, c0, c1, h2⟩

theorem agreed3 (gd : Option Nat) (cd : Nat) (gl : Option Nat) (cl : Nat) (B : Nat) (w : World) (h : (known3 gd cd gl cl).At w B) :
    Calls Tryz.prog 24 #[.pointer (some ⟨B, 0, none⟩)] w fun e w' => ∃ g c, e = .returned (.slice (some ⟨g, 0, none⟩) 1 c) ∧ w'.cell? ⟨g, 2, none⟩ = some (.string ⟨#[107]⟩) ∧ Below w.heap.size w w' := by
  refine (agreed_go B _ _ _ _ _ _ _ _ _ _ _ _ _ _ _ w h (by show 1 ≤ 1; decide) (by show 1 ≤ 20; decide)).mono ?_
  rintro e w' ⟨g, c, rfl, ho, hb⟩
  obtain ⟨k, o, ek, _, _, c2⟩ := ho.at_ 0 (by show 0 < 1; decide)
  cases g with
  | none => cases ek
  | some g =>
    cases ek
    exact ⟨_, c, rfl, c2, hb⟩

end Go.Proofs.YtolififimldmlaaGreat

set_option linter.unusedVariables false
set_option linter.unusedSimpArgs false
namespace Go.Proofs.YtolififimldmlaaGreat
open Go.RowKit
attribute [local go_sem ↓] Go.wp_at_zero Go.wp_at_succ

set_option maxRecDepth 100000 in
set_option maxHeartbeats 8000000 in
/-- 'known': a line that one other one holds is told. -/
theorem known_go (w : World) : Calls Tryz.prog 14 #[] w fun e w' => e = .returned (.bool true) ∧ Below w.heap.size w w' := by
  have PS1 : Hid (∀ z, Calls Tryz.prog 15 #[.agg #[.int .i64 1, .int .i64 0, .int .i64 0, .int .i64 0, .int .i64 0, .int .i64 0, .int .i64 1, .int .i64 1, .string ⟨#[107]⟩, .slice none 0 0]] z fun e w' => ∃ g c, e = .returned (.tuple #[.slice (some ⟨g, 0, none⟩) (packS sayF).length c, .int .i64 0]) ∧ BytesIn w' (some ⟨g, 0, none⟩) (packS sayF) ∧ (packS sayF).length ≤ c ∧ z.heap.size ≤ g ∧ Below z.heap.size z w') := packKnown sayF sayF_ok rfl
  have PS2 : Hid (∀ z, Calls Tryz.prog 15 #[.agg #[.int .i64 3, .int .i64 2, .int .i64 0, .int .i64 1, .int .i64 0, .int .i64 0, .int .i64 0, .int .i64 0, .string ⟨#[]⟩, .slice none 0 0]] z fun e w' => ∃ g c, e = .returned (.tuple #[.slice (some ⟨g, 0, none⟩) (packS holdF1).length c, .int .i64 0]) ∧ BytesIn w' (some ⟨g, 0, none⟩) (packS holdF1) ∧ (packS holdF1).length ≤ c ∧ z.heap.size ≤ g ∧ Below z.heap.size z w') := packKnown holdF1 holdF1_ok rfl
  have HH1 := hid heard1
  have HH2 := hid heard2
  generalize packS sayF = sb at PS1 HH1
  generalize packS holdF1 = hb at PS2 HH2
  go_enter Tryz.func14, Tryz.ntmps14
  go_wp2_with fail
  refine (firstK_go _).mono ?_
  rintro e X1 ⟨gc, cc, gl, cl, rfl, hF, hb1⟩
  obtain ⟨g, B, rfl, hc0, hv, hnB⟩ := hF.hd (by decide)
  have HV := hid hv
  have hgB : Hid (g ≠ B) := fun e => hF.low.neT hv.blk (by decide) (by rw [e])
  have hNB : Hid (w.heap.size < B) := hnB
  have N1 : Hid (X1.cell? ⟨w.heap.size, 1, none⟩ = some (.slice (some ⟨g, 0, none⟩) 3 cl)) := cell_of_heap hF.blk 1
  have R1 := hid hc0
  have HB1 := hid hb1
  have L1 : Hid (B < X1.heap.size ∧ g < X1.heap.size ∧ w.heap.size < X1.heap.size) := ⟨hv.lt, hF.low.lt rfl, heap_lt hF.blk⟩
  clear hF hc0 hv hnB hb1
  go_wp2_with fail
  refine (PS1.out _).mono ?_
  rintro e X2 ⟨g1, c1, rfl, hby1, hcap1, _, hb2⟩
  have HY1 := hid hby1
  have HP1 := hid hcap1
  have HB2 := hid hb2
  clear hby1 hcap1 hb2 PS1
  go_wp2_with fail
  refine (PS2.out _).mono ?_
  rintro e X3 ⟨g2, c2, rfl, hby2, hcap2, hn2, hb3⟩
  have HY2 := hid hby2
  have HP2 := hid hcap2
  have HB13 := hid (HB2.out.trans (hb3.mono HB2.out.size))
  have HY1 := hid (HY1.out.below hb3)
  have HG2 : Hid (B < g2) := by have := L1.out; have := HB2.out.size; show _ < _; omega
  clear hby2 hcap2 hb3 PS2 hn2
  have n1 : X3.cell? ⟨w.heap.size, 1, none⟩ = some (.slice (some ⟨g, 0, none⟩) 3 cl) := (HB13.out.cell (World.block_lt_of_cell? _ _ N1.out)).trans N1.out
  have r1 : X3.cell? ⟨g, 0, none⟩ = some (.pointer (some ⟨B, 0, none⟩)) := (HB13.out.cell (World.block_lt_of_cell? _ _ R1.out)).trans R1.out
  go_wp2_with fail
  refine (HH1.out B X3 (HV.out.below HB13.out) g1 c1 HY1.out HP1.out).mono ?_
  rintro e X4 ⟨a4, q4, gd, cd, gl', cl', rfl, hch⟩
  have HCH := hid hch
  have n4 : X4.cell? ⟨w.heap.size, 1, none⟩ = some (.slice (some ⟨g, 0, none⟩) 3 cl) := hch.tch.cell n1 (fun e => by have := PV.fresh_own e; have := hNB.out; (try dsimp only at *); omega)
  have r4 : X4.cell? ⟨g, 0, none⟩ = some (.pointer (some ⟨B, 0, none⟩)) := hch.tch.cell r1 (fun e => hgB.out (PV.fresh_own e))
  have HY4 := hid (HY2.out.touch hch.tch (fun e => by have := PV.fresh_own e; have := HG2.out; omega))
  have HA4 : Hid (X1.heap.size ≤ X3.heap.size) := HB13.out.size
  clear hch n1 r1 HH1 HY1 HY2
  go_wp2_with fail
  refine (HH2.out gd cd gl' cl' B X4 HCH.out.at_ g2 c2 HY4.out HP2.out).mono ?_
  rintro e X5 ⟨g5, q5, rfl, t0, t1, hch2⟩
  have hown : Hid (∀ k, (known2 gd cd gl' cl').own B k → k = B ∨ X3.heap.size ≤ k) := fun k e => by
    rcases HCH.out.new k e with e | e
    · exact .inl (PV.fresh_own e)
    · exact .inr e
  have n5 : X5.cell? ⟨w.heap.size, 1, none⟩ = some (.slice (some ⟨g, 0, none⟩) 3 cl) := hch2.tch.cell n4 (fun e => by have := hown.out _ e; have := hNB.out; have := L1.out; have := HA4.out; dsimp only at *; omega)
  have r5 : X5.cell? ⟨g, 0, none⟩ = some (.pointer (some ⟨B, 0, none⟩)) := hch2.tch.cell r4 (fun e => by have := hown.out _ e; have := hgB.out; have := L1.out; have := HA4.out; dsimp only at *; omega)
  have HB5 : Hid (Below w.heap.size w X5) := by
    have b3 := HB1.out.trans (HB13.out.mono HB1.out.size)
    have b4 := b3.trans (HCH.out.tch.below b3.size (fun k _ e => by have := PV.fresh_own e; have := hNB.out; omega))
    exact b4.trans (hch2.tch.below b4.size (fun k _ e => by have := hown.out _ e; have := hNB.out; have := L1.out; have := HA4.out; omega))
  have HAT := hid hch2.at_
  have T0 := hid t0
  have T1 := hid t1
  clear hch2 n4 r4 HH2 t0 t1
  go_wp2_with fail
  refine (agreed3 gd cd gl' cl' B X5 HAT.out).mono ?_
  rintro e X6 ⟨g6, q6, rfl, l2, hb6⟩
  have t0 : X6.cell? ⟨g5, 0, none⟩ = some (.bool true) := (hb6.cell (World.block_lt_of_cell? _ _ T0.out)).trans T0.out
  have t1 : X6.cell? ⟨g5, 1, none⟩ = some (.int .i64 1) := (hb6.cell (World.block_lt_of_cell? _ _ T1.out)).trans T1.out
  have HB6 := hid (HB5.out.trans (hb6.mono HB5.out.size))
  clear hb6 n5 r5
  go_wp2
  go_ret
  exact ⟨rfl, HB6.out⟩

end Go.Proofs.YtolififimldmlaaGreat

set_option linter.unusedVariables false
set_option linter.unusedSimpArgs false
namespace Go.Proofs.YtolififimldmlaaGreat
open Go.RowKit
attribute [local go_sem ↓] Go.wp_at_zero Go.wp_at_succ

theorem unpackR_nil : unpackR [] = none := by unfold unpackR; rw [if_pos (.inl (by decide))]

set_option maxRecDepth 100000 in
set_option maxHeartbeats 4000000 in
theorem framesUnpack_nil (a : Option Addr) (cap : Nat) (w : World) : Calls Tryz.prog 33 #[.slice a 0 cap] w fun e w' => e = .returned (.tuple #[.agg #[.int .i64 0, .int .i64 0, .int .i64 0, .int .i64 0, .int .i64 0, .int .i64 0, .int .i64 0, .int .i64 0, .string ⟨#[]⟩, .slice none 0 0], .bool false]) ∧ Below w.heap.size w w' := by
  have HS : Hid (∀ z, Calls Tryz.prog 73 #[.slice a 0 cap] z fun e w' => e = .returned (.tuple #[.slice none 0 0, .bool false]) ∧ w' = z) := fun z => (strip_go a cap [] z (fun j hj => absurd hj (Nat.not_lt_zero _)) (Nat.zero_le _) (Nat.zero_le _)).mono (by
    rintro e w' ⟨rfl, rfl⟩
    exact ⟨rfl, rfl⟩)
  go_enter Tryz.func33, Tryz.ntmps33
  go_wp2_with fail
  refine (HS.out _).mono ?_
  rintro e X1 ⟨rfl, rfl⟩
  have HB : Hid (Below w.heap.size w (w.alloc (.cells #[.int .i64 0, .int .i64 0, .int .i64 0, .int .i64 0, .int .i64 0, .int .i64 0, .int .i64 0, .int .i64 0, .string ⟨#[]⟩, .slice none 0 0] 30))) := (Below.refl _ _).alloc (Nat.le_refl _) _
  have HX1 := hid (heap_alloc_new w (.cells #[.int .i64 0, .int .i64 0, .int .i64 0, .int .i64 0, .int .i64 0, .int .i64 0, .int .i64 0, .int .i64 0, .string ⟨#[]⟩, .slice none 0 0] 30))
  generalize w.alloc (.cells #[.int .i64 0, .int .i64 0, .int .i64 0, .int .i64 0, .int .i64 0, .int .i64 0, .int .i64 0, .int .i64 0, .string ⟨#[]⟩, .slice none 0 0] 30) = X at *
  obtain ⟨r0, r1, r2, r3, r4, r5, r6, r7, r8, r9⟩ := box_cells HX1.out
  have hfR : ∀ j, X.frozen? ⟨w.heap.size, j, none⟩ = false := fun j => frozen_of_heap HX1.out j
  go_wp2
  refine progRet (set10 HX1.out rfl _ _ _ _ _ _ _ _ _ _) rfl rfl rfl ⟨rfl, ?_⟩
  exact below10 HB.out (Nat.le_refl _) _ _ _ _ _ _ _ _ _ _

set_option maxRecDepth 100000 in
set_option maxHeartbeats 4000000 in
theorem unpack_nil (a : Option Addr) (cap : Nat) (w : World) : Calls Tryz.prog 16 #[.slice a 0 cap] w (RetFrame w []) := by
  have HNO := hid (fun (w' : World) (hb : Below w.heap.size w w') => ret_zero unpackR_nil hb)
  generalize RetFrame w [] = Q at *
  go_enter Tryz.func16, Tryz.ntmps16
  go_wp2_with fail
  refine (framesUnpack_nil a cap _).mono ?_
  rintro e w1 ⟨rfl, hb1⟩
  have HX1 := hid (Box.below (heap_alloc_new w (.cells #[.int .i64 0, .int .i64 0, .int .i64 0, .int .i64 0, .int .i64 0, .int .i64 0, .int .i64 0, .int .i64 0, .string ⟨#[]⟩, .slice none 0 0] 30)) hb1)
  have HW1 : Hid (Below w.heap.size w w1) := ((Below.refl _ w).alloc (Nat.le_refl _) _).trans (hb1.mono (by simp))
  clear hb1
  have hRl : w.heap.size < w1.heap.size := heap_lt HX1.out
  obtain ⟨r0, r1, r2, r3, r4, r5, r6, r7, r8, r9⟩ := box_cells HX1.out
  have hfR : ∀ j, w1.frozen? ⟨w.heap.size, j, none⟩ = false := fun j => frozen_of_heap HX1.out j
  go_wp2
  refine unpRet (alloc_keep (set10 HX1.out rfl _ _ _ _ _ _ _ _ _ _)) rfl rfl rfl (HNO.out _ ?_)
  exact (below10 HW1.out (Nat.le_refl _) _ _ _ _ _ _ _ _ _ _).alloc (by simp only [size_setCell]; exact HW1.out.size) _

/-- Unpack, of any bytes. -/
theorem unpack_any (a : Option Addr) (cap : Nat) (l : List UInt8) (w : World) (hb : BytesIn w a l) (hn : l.length ≤ 10000000) (hc : l.length ≤ cap) : Calls Tryz.prog 16 #[.slice a l.length cap] w (RetFrame w l) := by
  cases l with
  | nil => exact unpack_nil a cap w
  | cons x xs =>
    obtain ⟨g, o, e, _⟩ := hb 0 (by simp)
    cases e
    exact unpackSaid_ g o cap _ w (fun j hj => by
      obtain ⟨g', o', e', hc⟩ := hb j hj
      cases e'
      exact hc) hn hc

/-- Bytes to a text. -/
theorem conv_any (a : Option Addr) (cap : Nat) (l : List UInt8) (w : World) (hb : BytesIn w a l) : (convert 31 9 (.slice a l.length cap)).run Tryz.prog w = .ok (.string ⟨l.toArray⟩) w := by
  cases l with
  | nil =>
    rw [List.length_nil, run_convert_bytes_string w 31 9 5 a 0 cap Tryz.underlying31 Tryz.underlying5 Tryz.underlying9]
    cases a with
    | none => simp [Conv.bytesToString]; rfl
    | some p => simp [Conv.bytesToString, World.cells?]; rfl
  | cons x xs =>
    obtain ⟨g, o, e, _⟩ := hb 0 (by simp)
    cases e
    exact conv_in g o _ cap _ w hb rfl

end Go.Proofs.YtolififimldmlaaGreat

set_option linter.unusedVariables false
set_option linter.unusedSimpArgs false
namespace Go.Proofs.YtolififimldmlaaGreat
open Go.RowKit
attribute [local go_sem ↓] Go.wp_at_zero Go.wp_at_succ

theorem Fr.ok_lines {f : Fr} (h : f.ok = true) : f.lines.length ≤ 20 := by
  obtain ⟨_, _, _, _, h1, h2⟩ := Fr.ok_parts h
  cases e : hasB f.kind 110
  · rw [h2 e]; simp
  · exact (linesOk_all (h1 e)).1
theorem OwnRow.le {w : World} {e : TypeId} {size : Nat} {b : Option Nat} {n c : Nat} (h : OwnRow w e size b n c) : n ≤ c := by
  rcases h with ⟨_, h1, h2⟩ | ⟨g, cur, _, _, _, h, _⟩
  · omega
  · exact h

set_option maxRecDepth 100000 in
set_option maxHeartbeats 8000000 in
theorem wire_walk (f : Fr) (a : Option Addr) (fc : Nat) (ab : Option Addr) (cb : Nat) (b : List UInt8) (w : World) (hl : LinesAt w a f.lines) (hln : f.lines.length ≤ 10000000) (hlc : f.lines.length ≤ fc) (hb : BytesIn w ab b) (hbn : b.length ≤ 10000000) (hbc : b.length ≤ cb) :
    Calls Tryz.prog 6 #[f.val a fc, .slice ab b.length cb] w fun e w' => e = .returned (.bool true) ∧ Below w.heap.size w w' := by
  have HL := hid hl
  have HBB := hid hb
  clear hl hb
  have HPF := hid (fun z h1 => packSaid_ f a fc z h1 hln hlc)
  cases hok : f.ok
  · have e1 : packS f = [] := by unfold packS; rw [hok]; rfl
    have e2 : packE f = 3 := by unfold packE; rw [hok]; rfl
    rw [e1, e2] at HPF
    unfold Fr.val sla at HPF ⊢
    clear e1 e2 hok
    go_enter Tryz.func6, Tryz.ntmps6
    go_wp2_with fail
    refine (known_go _).mono ?_
    rintro e X1 ⟨rfl, hb1⟩
    rw [World.size_alloc] at hb1
    have HX1 : Hid (Below w.heap.size w X1) := ((Below.refl _ w).alloc (Nat.le_refl _) _).trans (hb1.mono (by omega))
    have HQ1 : Hid (Box w.heap.size (.int .i64 f.kind) (.int .i64 f.frm) (.int .i64 f.view) (.int .i64 f.place) (.int .i64 f.agreed) (.int .i64 f.last) (.int .i64 f.line.c) (.int .i64 f.line.t) (.string ⟨f.line.s.toArray⟩) (.slice a f.lines.length fc) X1) := (hb1.block _ (by omega)).trans (heap_alloc_new w _)
    clear hb1
    obtain ⟨r0, r1, r2, r3, r4, r5, r6, r7, r8, r9⟩ := box_cells HQ1.out
    go_wp2_with fail
    refine (HPF.out X1 (HL.out.below HX1.out)).mono ?_
    rintro e Z ⟨gs, cs, rfl, _, hb2⟩
    have HBZ := hid (HX1.out.trans (hb2.mono HX1.out.size))
    clear hb2 r0 r1 r2 r3 r4 r5 r6 r7 r8 r9
    unfold sl
    simp only [List.length_nil]
    have HU2 := hid (unpack_any ab cb b Z (HBB.out.below HBZ.out) hbn hbc)
    unfold RetFrame at HU2
    rcases hub : unpackR b with _ | x
    · obtain ⟨u1, u2⟩ := un_no hub
      rw [u1, u2] at HU2
      unfold Fr.val sla Fr.zero Ln.zero at HU2
      clear hub u1 u2
      go_wp2_with fail
      refine HU2.out.mono ?_
      rintro e Z1 ⟨gx, cx, rfl, _, hbz1⟩
      have HBZ1 := hid (HBZ.out.trans (hbz1.mono HBZ.out.size))
      clear hbz1
      go_wp2
      go_ret
      exact ⟨rfl, HBZ1.out.alloc HBZ1.out.size _⟩
    · obtain ⟨u1, u2⟩ := un_yes hub
      have hxp := unpack_pack hub
      rw [u1, u2] at HU2
      have HXP := hid hxp.2
      have hxe : packE x = 0 := by unfold packE; rw [if_pos hxp.1]
      have hxl : x.lines.length ≤ 20 := Fr.ok_lines hxp.1
      have HPX := hid (fun z a c h1 h2 => packSaid_ x a c z h1 (Nat.le_trans hxl (by decide)) h2)
      rw [hxe, hxp.2] at HPX
      unfold Fr.val sla at HU2 HPX
      clear hub u1 u2 hxp hxe
      go_wp2_with fail
      refine HU2.out.mono ?_
      rintro e Z1 ⟨gx, cx, rfl, hox, hbz1⟩
      have HOX := hid hox
      have HBZ1 := hid (HBZ.out.trans (hbz1.mono HBZ.out.size))
      have hcx : Hid (x.lines.length ≤ cx) := hox.own.le
      clear hbz1 hox
      go_wp2_with fail
      have HOA := hid (HOX.out.at_.alloc (.cells #[.int .i64 x.kind, .int .i64 x.frm, .int .i64 x.view, .int .i64 x.place, .int .i64 x.agreed, .int .i64 x.last, .int .i64 x.line.c, .int .i64 x.line.t, .string ⟨x.line.s.toArray⟩, .slice (gx.map fun k => ⟨k, 0, none⟩) x.lines.length cx] 30))
      refine (HPX.out _ _ _ HOA.out hcx.out).mono ?_
      rintro e Z2 ⟨gt, ct, rfl, hot, hbz2⟩
      rw [World.size_alloc] at hbz2
      have HBZ2 := hid ((HBZ1.out.alloc HBZ1.out.size (.cells #[.int .i64 x.kind, .int .i64 x.frm, .int .i64 x.view, .int .i64 x.place, .int .i64 x.agreed, .int .i64 x.last, .int .i64 x.line.c, .int .i64 x.line.t, .string ⟨x.line.s.toArray⟩, .slice (gx.map fun k => ⟨k, 0, none⟩) x.lines.length cx] 30)).trans (hbz2.mono (by have := HBZ1.out.size; omega)))
      have k1 := conv_bytes gt ct b Z2 hot.at_
      have k2 := conv_any ab cb b Z2 (HBB.out.below HBZ2.out)
      clear hot hbz2
      unfold sl
      go_wp2
      go_ret
      exact ⟨rfl, HBZ2.out⟩

  · have e2 : packE f = 0 := by unfold packE; rw [hok]; rfl
    have hpl := packS_len f
    have HPO := hid (packS_pos hok)
    have HUP := hid (fun g c z h1 h2 => unpackSaid_ g 0 c (packS f) z h1 (Nat.le_trans hpl (by decide)) h2)
    unfold RetFrame at HUP
    obtain ⟨u1, u2⟩ := un_yes (pack_unpack f hok)
    rw [u1, u2] at HUP
    have HPG := hid (fun z a c h1 h2 => packSaid_ f a c z h1 (Nat.le_trans (Fr.ok_lines hok) (by decide)) h2)
    rw [e2] at HPF HPG
    unfold Fr.val sla at HPF HUP HPG ⊢
    clear e2 u1 u2 hok hpl
    generalize packS f = s at *
    go_enter Tryz.func6, Tryz.ntmps6
    go_wp2_with fail
    refine (known_go _).mono ?_
    rintro e X1 ⟨rfl, hb1⟩
    rw [World.size_alloc] at hb1
    have HX1 : Hid (Below w.heap.size w X1) := ((Below.refl _ w).alloc (Nat.le_refl _) _).trans (hb1.mono (by omega))
    have HQ1 : Hid (Box w.heap.size (.int .i64 f.kind) (.int .i64 f.frm) (.int .i64 f.view) (.int .i64 f.place) (.int .i64 f.agreed) (.int .i64 f.last) (.int .i64 f.line.c) (.int .i64 f.line.t) (.string ⟨f.line.s.toArray⟩) (.slice a f.lines.length fc) X1) := (hb1.block _ (by omega)).trans (heap_alloc_new w _)
    clear hb1
    obtain ⟨r0, r1, r2, r3, r4, r5, r6, r7, r8, r9⟩ := box_cells HQ1.out
    go_wp2_with fail
    refine (HPF.out X1 (HL.out.below HX1.out)).mono ?_
    rintro e X2 ⟨gs, cs, rfl, hos, hb2⟩
    obtain ⟨g, rfl, _⟩ := hos.at_ 0 HPO.out
    have HOS := hid hos
    have HX2 := hid (HX1.out.trans (hb2.mono HX1.out.size))
    have HQ2 := hid (Box.below HQ1.out hb2)
    have hsc : Hid (s.length ≤ cs) := hos.own.le
    clear hos hb2 r0 r1 r2 r3 r4 r5 r6 r7 r8 r9
    unfold sl
    simp only [Option.map_some]
    go_wp2_with fail
    refine (HUP.out g cs X2 (fun j hj => by
      obtain ⟨g', e, hc⟩ := HOS.out.at_ j hj
      cases e
      rw [Nat.zero_add]; exact hc) hsc.out).mono ?_
    rintro e X3 ⟨gx, cx, rfl, hox, hb3⟩
    have HOX := hid hox
    have hcx : Hid (f.lines.length ≤ cx) := hox.own.le
    have HX3 := hid (HX2.out.trans (hb3.mono HX2.out.size))
    have HQ3 := hid (Box.below HQ2.out hb3)
    have HOS3 := hid (HOS.out.below hb3)
    clear hox hb3
    go_wp2_with fail
    have HOA := hid (HOX.out.at_.alloc (.cells #[.int .i64 f.kind, .int .i64 f.frm, .int .i64 f.view, .int .i64 f.place, .int .i64 f.agreed, .int .i64 f.last, .int .i64 f.line.c, .int .i64 f.line.t, .string ⟨f.line.s.toArray⟩, .slice (gx.map fun k => ⟨k, 0, none⟩) f.lines.length cx] 30))
    refine (HPG.out _ _ _ HOA.out hcx.out).mono ?_
    rintro e Z ⟨gt, ct, rfl, hot, hb4⟩
    have hbA : Below X3.heap.size X3 (X3.alloc (.cells #[.int .i64 f.kind, .int .i64 f.frm, .int .i64 f.view, .int .i64 f.place, .int .i64 f.agreed, .int .i64 f.last, .int .i64 f.line.c, .int .i64 f.line.t, .string ⟨f.line.s.toArray⟩, .slice (gx.map fun k => ⟨k, 0, none⟩) f.lines.length cx] 30)) := (Below.refl _ _).alloc (Nat.le_refl _) _
    have hb34 := hbA.trans (hb4.mono (by simp))
    have HBZ := hid (HX3.out.trans (hb34.mono HX3.out.size))
    have HQZ := hid (Box.below HQ3.out hb34)
    have HGZ : Hid (Box X3.heap.size (.int .i64 f.kind) (.int .i64 f.frm) (.int .i64 f.view) (.int .i64 f.place) (.int .i64 f.agreed) (.int .i64 f.last) (.int .i64 f.line.c) (.int .i64 f.line.t) (.string ⟨f.line.s.toArray⟩) (.slice (gx.map fun k => ⟨k, 0, none⟩) f.lines.length cx) Z) := Box.below (heap_alloc_new X3 _) hb4
    have k3 := conv_bytes gt ct s Z hot.at_
    have k4 := conv_bytes (some g) cs s Z (HOS3.out.below hb34).at_
    simp only [Option.map_some] at k4
    clear hbA hb34 hb4 hot
    obtain ⟨r0, r1, r2, r3, r4, r5, r6, r7, r8, r9⟩ := box_cells HQZ.out
    obtain ⟨p0, p1, p2, p3, p4, p5, p6, p7, p8, p9⟩ := box_cells HGZ.out
    unfold sl
    have HU2 := hid (unpack_any ab cb b Z (HBB.out.below HBZ.out) hbn hbc)
    unfold RetFrame at HU2
    rcases hub : unpackR b with _ | x
    · obtain ⟨u1, u2⟩ := un_no hub
      rw [u1, u2] at HU2
      unfold Fr.val sla Fr.zero Ln.zero at HU2
      clear hub u1 u2
      go_wp2_with fail
      refine HU2.out.mono ?_
      rintro e Z1 ⟨gx, cx, rfl, _, hbz1⟩
      have HBZ1 := hid (HBZ.out.trans (hbz1.mono HBZ.out.size))
      clear hbz1
      go_wp2
      go_ret
      exact ⟨rfl, HBZ1.out.alloc HBZ1.out.size _⟩
    · obtain ⟨u1, u2⟩ := un_yes hub
      have hxp := unpack_pack hub
      rw [u1, u2] at HU2
      have HXP := hid hxp.2
      have hxe : packE x = 0 := by unfold packE; rw [if_pos hxp.1]
      have hxl : x.lines.length ≤ 20 := Fr.ok_lines hxp.1
      have HPX := hid (fun z a c h1 h2 => packSaid_ x a c z h1 (Nat.le_trans hxl (by decide)) h2)
      rw [hxe, hxp.2] at HPX
      unfold Fr.val sla at HU2 HPX
      clear hub u1 u2 hxp hxe
      go_wp2_with fail
      refine HU2.out.mono ?_
      rintro e Z1 ⟨gx, cx, rfl, hox, hbz1⟩
      have HOX := hid hox
      have HBZ1 := hid (HBZ.out.trans (hbz1.mono HBZ.out.size))
      have hcx : Hid (x.lines.length ≤ cx) := hox.own.le
      clear hbz1 hox
      go_wp2_with fail
      have HOA := hid (HOX.out.at_.alloc (.cells #[.int .i64 x.kind, .int .i64 x.frm, .int .i64 x.view, .int .i64 x.place, .int .i64 x.agreed, .int .i64 x.last, .int .i64 x.line.c, .int .i64 x.line.t, .string ⟨x.line.s.toArray⟩, .slice (gx.map fun k => ⟨k, 0, none⟩) x.lines.length cx] 30))
      refine (HPX.out _ _ _ HOA.out hcx.out).mono ?_
      rintro e Z2 ⟨gt, ct, rfl, hot, hbz2⟩
      rw [World.size_alloc] at hbz2
      have HBZ2 := hid ((HBZ1.out.alloc HBZ1.out.size (.cells #[.int .i64 x.kind, .int .i64 x.frm, .int .i64 x.view, .int .i64 x.place, .int .i64 x.agreed, .int .i64 x.last, .int .i64 x.line.c, .int .i64 x.line.t, .string ⟨x.line.s.toArray⟩, .slice (gx.map fun k => ⟨k, 0, none⟩) x.lines.length cx] 30)).trans (hbz2.mono (by have := HBZ1.out.size; omega)))
      have k1 := conv_bytes gt ct b Z2 hot.at_
      have k2 := conv_any ab cb b Z2 (HBB.out.below HBZ2.out)
      clear hot hbz2
      unfold sl
      go_wp2
      go_ret
      exact ⟨rfl, HBZ2.out⟩

end Go.Proofs.YtolififimldmlaaGreat
