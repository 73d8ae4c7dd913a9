import Derived.Test.YtolififimldmlaaGreatRefD
set_option linter.unusedVariables false
set_option linter.unusedSimpArgs false
namespace Go.Proofs.YtolififimldmlaaGreat
open Go.RowKit
attribute [local go_sem ↓] Go.wp_at_zero Go.wp_at_succ

theorem ret_se {a b : ByteArray} {x y : Int} (h : a.data.toList = b.data.toList) (hx : x = y) : Ending.returned (.tuple #[.string a, .int .i64 x]) = .returned (.tuple #[.string b, .int .i64 y]) := by rw [str_val h, hx]

theorem checked_at (s : ByteArray) (l : List UInt8) (w : World) (hn : l.length ≤ 100000000) (hs : s = ⟨l.toArray⟩) :
    Calls Tryz.prog 96 #[.string s] w fun e w' => e = .returned (.string ⟨(withChk l).toArray⟩) ∧ Below w.heap.size w w' := by
  subst hs; exact checked_any l w hn
theorem bytes_ext {a : ByteArray} {l : List UInt8} (h : a.data.toList = l) : a = ⟨l.toArray⟩ := by subst h; rfl
theorem no_both (k : Int) : ¬ (hasB k 49 = true ∧ hasB k 110 = true) := by
  unfold hasB memB fieldStr
  repeat' split
  all_goals decide

set_option maxRecDepth 100000 in
set_option maxHeartbeats 2000000 in
theorem refPack_any (f : Fr) (a : Option Addr) (cap : Nat) (w : World) (hl : LinesAt w a f.lines) (hn : f.lines.length ≤ 100000000) (hcap : f.lines.length ≤ cap) :
    Calls Tryz.prog 50 #[f.val a cap] w fun e w' => e = .returned (.tuple #[.string ⟨(packS f).toArray⟩, .int .i64 (packE f)]) ∧ Below w.heap.size w w' := by
  have HL := hid hl
  have HIF := hid (fun w1 (h : Below w.heap.size w w1) => isFrame_any f a cap w1 (HL.out.below h) hn hcap)
  clear hl
  cases hok : f.ok
  · have HE : Hid (packS f = [] ∧ packE f = 3) := by show _ ∧ _; simp [packS, packE, hok]
    have HO := hid hok
    clear hok
    unfold Fr.val sla at HIF ⊢
    go_enter Tryz.func50, Tryz.ntmps50
    go_wp2_with fail
    refine (HIF.out _ ((Below.refl _ _).alloc (Nat.le_refl _) _)).mono ?_
    rintro e w1 ⟨rfl, hb1⟩
    rw [HO.out]
    go_wp2
    go_ret2
    exact ⟨by rw [HE.out.1, HE.out.2]; rfl, ((Below.refl _ _).alloc (Nat.le_refl _) _).trans (hb1.mono (by simp))⟩
  · have HE : Hid (packS f = withChk f.body ∧ packE f = 0) := by show _ ∧ _; simp [packS, packE, hok, Fr.bytes]
    have HO := hid hok
    have HBL := Fr.body_len hok
    obtain ⟨p1, p2, p3, p4, p5, p6⟩ := Fr.ok_parts hok
    have P3 := hid p3
    have P5 := hid p5
    have HBD : Hid (f.body = f.head ++ (if hasB f.kind 49 then lineBytes f.line else []) ++ (if hasB f.kind 110 then linesBytes f.lines else [])) := rfl
    clear hok p3 p4 p5 p6
    have hconv := conv6
    obtain ⟨kind, frm, view, place, agreed, last, ⟨c, t, s⟩, ls⟩ := f
    unfold Fr.val sla at HIF ⊢
    dsimp only at *
    go_enter Tryz.func50, Tryz.ntmps50
    go_wp2_with fail
    refine (HIF.out _ ((Below.refl _ _).alloc (Nat.le_refl _) _)).mono ?_
    rintro e w1 ⟨rfl, hb1⟩
    rw [HO.out]
    have hz1 : w.heap.size < w1.heap.size := by have := hb1.size; simp at this; omega
    have HW1 : Hid (Below w.heap.size w w1) := ((Below.refl _ w).alloc (Nat.le_refl _) _).trans (hb1.mono (by simp))
    obtain ⟨q1, q2⟩ := bcell hb1
    clear hb1 q2
    go_wp2_with fail
    refine (fields_any kind _ p1 p2).mono ?_
    rintro e w2 ⟨rfl, hb2⟩
    obtain ⟨r1, r2⟩ := bcell hb2
    simp only [World.size_alloc] at r1
    have hz2 : w.heap.size < w2.heap.size := by have := hb2.size; simp at this; omega
    have HW2 : Hid (Below w.heap.size w w2) := (HW1.out.alloc (by have := HW1.out.size; omega) _).trans (hb2.mono (by have := HW1.out.size; simp; omega))
    clear hb2 r2
    go_wp2_with fail
    refine (has_k kind 49 _ rfl _).mono ?_
    rintro e _ ⟨rfl, rfl⟩
    go_wp2_with fail
    refine (has_k kind 110 _ rfl _).mono ?_
    rintro e _ ⟨rfl, rfl⟩
    have HK : Hid (UInt8.ofNat kind.toNat = byteOf kind) := by
      show _ = _
      unfold byteOf; rw [Int.emod_eq_of_lt (by omega) (by omega)]
    cases h49 : hasB kind 49
    · cases h110 : hasB kind 110
      · rw [h49, h110] at HBD
        clear h49 h110
        go_wp2_with fail
        refine (checked_at _ _ _ (Nat.le_trans HBL (by omega)) ?_).mono ?_
        · rw [HBD.out, HK.out]; rfl
        rintro e w3 ⟨rfl, hb3⟩
        go_wp2
        go_ret2
        exact ⟨by rw [HE.out.1, HE.out.2]; rfl, HW2.out.trans (hb3.mono HW2.out.size)⟩
      · have hls := P5.out h110
        rw [h49, h110] at HBD
        clear h49 h110
        obtain ⟨n20, hlo⟩ := linesOk_all hls
        have hmb := manyBytes_len ls hlo
        have HLO := hid hlo
        have hlb : (linesBytes ls).length ≤ 221 := by unfold linesBytes; rw [List.length_cons]; omega
        clear hlo hls hmb
        go_wp2_with fail
        refine (linesText_any a cap ls _ (HL.out.below HW2.out) hn (fun l hl => Ln.ok_len (HLO.out l hl))).mono ?_
        rintro e w3 ⟨rfl, hb3⟩
        have HW3 := hid (HW2.out.trans (hb3.mono HW2.out.size))
        clear hb3
        go_wp2_with fail
        refine (checked_at _ _ _ (Nat.le_trans HBL (by omega)) ?_).mono ?_
        · rw [HBD.out, HK.out]; exact bytes_ext (by rw [ByteArray.data_append]; simp [Fr.head, byteOf])
        rintro e w4 ⟨rfl, hb4⟩
        go_wp2
        go_ret2
        exact ⟨by rw [HE.out.1, HE.out.2]; rfl, HW3.out.trans (hb4.mono HW3.out.size)⟩
    · have hlk := Ln.ok_len (P3.out h49)
      cases h110 : hasB kind 110
      · rw [h49, h110] at HBD
        clear h49 h110
        dsimp only at hlk
        have hlb : (lineBytes ⟨c, t, s⟩).length ≤ 11 := by rw [lineBytes_len]; dsimp only; omega
        go_wp2_with fail
        refine (lineText_any ⟨c, t, s⟩ _ (by dsimp only; omega)).mono ?_
        rintro e w3 ⟨rfl, hb3⟩
        have HW3 := hid (HW2.out.trans (hb3.mono HW2.out.size))
        clear hb3
        go_wp2_with fail
        refine (checked_at _ _ _ (Nat.le_trans HBL (by omega)) ?_).mono ?_
        · rw [HBD.out, HK.out]; exact bytes_ext (by rw [ByteArray.data_append]; simp [Fr.head, byteOf])
        rintro e w4 ⟨rfl, hb4⟩
        go_wp2
        go_ret2
        exact ⟨by rw [HE.out.1, HE.out.2]; rfl, HW3.out.trans (hb4.mono HW3.out.size)⟩
      · exact absurd ⟨h49, h110⟩ (no_both kind)

end Go.Proofs.YtolififimldmlaaGreat
