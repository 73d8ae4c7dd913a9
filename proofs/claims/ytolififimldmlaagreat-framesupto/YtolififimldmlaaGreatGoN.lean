import Derived.Test.YtolififimldmlaaGreatGoM
set_option linter.unusedVariables false
set_option linter.unusedSimpArgs false
namespace Go.Proofs.YtolififimldmlaaGreat
open Go.RowKit
attribute [local go_sem ↓] Go.wp_at_zero Go.wp_at_succ

def tkLine (k : Int) (m : List UInt8) : Ln := if hasB k 49 then tlLine m else Ln.zero
def tkLines (k : Int) (m : List UInt8) : List Ln := if hasB k 110 then tsLines m else []
def tkRest (k : Int) (m : List UInt8) : List UInt8 := if hasB k 49 then tlRest m else if hasB k 110 then tsRest m else m
def tkOk (k : Int) (m : List UInt8) : Bool := if hasB k 49 then tlOk m else if hasB k 110 then tsOk m else true

/-- What follows a frame's head was read into the frame. -/
def TookAll (w : World) (P : Nat) (k : Int) (v1 v2 v3 v4 v5 : Value) (m : List UInt8) (e : Ending) (w' : World) : Prop :=
  ∃ a' cap' g c, e = .returned (.tuple #[.slice a' (tkRest k m).length cap', .bool (tkOk k m)]) ∧
    Box P (.int .i64 k) v1 v2 v3 v4 v5 (.int .i64 (tkLine k m).c) (.int .i64 (tkLine k m).t) (.string ⟨(tkLine k m).s.toArray⟩) (.slice (g.map fun x => ⟨x, 0, none⟩) (tkLines k m).length c) w' ∧
    OwnLines w w' g c (tkLines k m) ∧ Touch (fun x => x = P) w w'

theorem take_at (a : Option Addr) (n cap : Nat) (b : List UInt8) (w0 w : World) (hb : BytesIn w0 a b) (hw : Below w0.heap.size w0 w) (e : b.length = n) (hn : b.length ≤ 100000000) (hcap : b.length ≤ cap) :
    Calls Tryz.prog 119 #[.slice a n cap] w (TookLines w0 w b) := by subst e; exact take_go a cap b w0 w hb hw hn hcap

set_option maxRecDepth 100000 in
set_option maxHeartbeats 4000000 in
theorem takeLines_go (P : Nat) (k : Int) (v1 v2 v3 v4 v5 : Value) (a : Option Addr) (n cap : Nat) (m : List UInt8) (w : World)
    (hP : Box P (.int .i64 k) v1 v2 v3 v4 v5 (.int .i64 0) (.int .i64 0) (.string ⟨#[]⟩) (.slice none 0 0) w) (hb : BytesIn w a m) (e : m.length = n) (hn : m.length ≤ 100000000) (hcap : m.length ≤ cap) :
    Calls Tryz.prog 75 #[.pointer (some ⟨P, 0, none⟩), .slice a n cap] w (TookAll w P k v1 v2 v3 v4 v5 m) := by
  have HB := hid hb
  have HE := hid e
  have HN := hid hn
  have HC := hid hcap
  have HX := hid hP
  obtain ⟨s0, s1, s2, s3, s4, s5, s6, s7, s8, s9⟩ := box_cells hP
  have hPl := heap_lt hP
  clear s1 s2 s3 s4 s5 s6 s7 s8 s9 hb e hn hcap hP
  go_enter Tryz.func75, Tryz.ntmps75
  go_wp2_with fail
  refine (fieldsOf_go k _).mono ?_
  rintro e w1 ⟨rfl, hw1⟩
  rw [hw1]
  clear hw1 w1
  have HBT := hid (bit_of k)
  generalize fb k = F at HBT ⊢
  cases h49 : hasB k 49
  · cases h110 : hasB k 110
    · have HL : Hid (tkLine k m = Ln.zero ∧ tkLines k m = [] ∧ tkRest k m = m ∧ tkOk k m = true) := by show _ ∧ _; simp [tkLine, tkLines, tkRest, tkOk, h49, h110]
      rw [h49, h110] at HBT
      have hb32 : (bits .and .i64 F 32 != 0) = false := HBT.out.1
      have hb64 : (bits .and .i64 F 64 != 0) = false := HBT.out.2
      clear h49 h110
      go_wp2
      go_ret2
      obtain ⟨l1, l2, l3, l4⟩ := HL.out
      refine ⟨a, cap, none, 0, by rw [l3, l4, HE.out]; rfl, ?_, ?_, Touch.refl _ _⟩
      · rw [l1, l2]; exact HX.out
      · rw [l2]; exact OwnLines.none_ _ _
    · have HL : Hid (tkLine k m = Ln.zero ∧ tkLines k m = tsLines m ∧ tkRest k m = tsRest m ∧ tkOk k m = tsOk m) := by show _ ∧ _; simp [tkLine, tkLines, tkRest, tkOk, h49, h110]
      rw [h49, h110] at HBT
      have hb32 : (bits .and .i64 F 32 != 0) = false := HBT.out.1
      have hb64 : (bits .and .i64 F 64 != 0) = true := HBT.out.2
      clear h49 h110
      go_wp2_with fail
      refine (take_at a n cap m w _ HB.out (Below.refl _ _) HE.out HN.out HC.out).mono ?_
      rintro e w2 ⟨g, c, a', cap', rfl, hol, hbi, hcp, hb2⟩
      have HX2 := hid (Box.below HX.out hb2)
      have HOL := hid hol
      have HB2 := hid hb2
      obtain ⟨s0', s1, s2, s3, s4, s5, s6, s7, s8, s9⟩ := box_cells HX2.out
      have hf : ∀ j, w2.frozen? ⟨P, j, none⟩ = false := fun j => frozen_of_heap HX2.out j
      have hgP : Hid (g ≠ some P) := fun e => by have := HOL.out.new _ e; omega
      clear s0' s1 s2 s3 s4 s5 s6 s7 s8 hol hbi hcp hb2
      unfold sl sla
      go_wp2
      go_ret2
      obtain ⟨l1, l2, l3, l4⟩ := HL.out
      refine ⟨a', cap', g, c, by rw [l3, l4]; rfl, ?_, ?_, ?_⟩
      · rw [l1, l2]
        have h := heap_setCell HX2.out 9 (.slice (g.map fun x => ⟨x, 0, none⟩) (tsLines m).length c)
        simp only [List.setIfInBounds_toArray, List.set_cons_zero, List.set_cons_succ] at h
        exact h
      · rw [l2]; exact HOL.out.setOther P 9 _ hgP.out
      · exact (Touch.of_belowAll HB2.out (fun x => x = P)).setCell (p := ⟨P, 9, none⟩) (fun _ => rfl) _
  · have h110 : hasB k 110 = false := by
      cases h : hasB k 110
      · rfl
      · exact absurd ⟨h49, h⟩ (no_both _)
    have HL : Hid (tkLine k m = tlLine m ∧ tkLines k m = [] ∧ tkRest k m = tlRest m ∧ tkOk k m = tlOk m) := by show _ ∧ _; simp [tkLine, tkLines, tkRest, tkOk, h49, h110]
    rw [h49, h110] at HBT
    have hb32 : (bits .and .i64 F 32 != 0) = true := HBT.out.1
    have hb64 : (bits .and .i64 F 64 != 0) = false := HBT.out.2
    clear h49 h110
    go_wp2_with fail
    refine (takeLine_at a n cap m w _ HB.out (Below.refl _ _) HE.out HN.out HC.out).mono ?_
    rintro e w2 ⟨a', cap', rfl, hbi, hcp, hb2⟩
    have HX2 := hid (Box.below HX.out hb2)
    have HB2 := hid hb2
    obtain ⟨s0', s1, s2, s3, s4, s5, s6, s7, s8, s9⟩ := box_cells HX2.out
    have hf : ∀ j, w2.frozen? ⟨P, j, none⟩ = false := fun j => frozen_of_heap HX2.out j
    clear s0' s1 s2 s3 s4 s5 s9 hbi hcp hb2
    unfold sla
    go_wp2
    go_ret2
    obtain ⟨l1, l2, l3, l4⟩ := HL.out
    refine ⟨a', cap', none, 0, by rw [l3, l4]; rfl, ?_, ?_, ?_⟩
    · rw [l1, l2]
      have h := heap_setCell (heap_setCell (heap_setCell HX2.out 6 (.int .i64 (tlLine m).c)) 7 (.int .i64 (tlLine m).t)) 8 (.string ⟨(tlLine m).s.toArray⟩)
      simp only [List.setIfInBounds_toArray, List.set_cons_zero, List.set_cons_succ] at h
      exact h
    · rw [l2]; exact OwnLines.none_ _ _
    · exact (((Touch.of_belowAll HB2.out (fun x => x = P)).setCell (p := ⟨P, 6, none⟩) (fun _ => rfl) _).setCell (p := ⟨P, 7, none⟩) (fun _ => rfl) _).setCell (p := ⟨P, 8, none⟩) (fun _ => rfl) _

end Go.Proofs.YtolififimldmlaaGreat
