import Derived.Test.YtolififimldmlaaGreatKeepAny
set_option linter.unusedVariables false
set_option linter.unusedSimpArgs false
namespace Go.Proofs.YtolififimldmlaaGreat
open Go.RowKit
attribute [local go_sem ↓] Go.wp_at_zero Go.wp_at_succ

theorem Cur.setMark {x : World} {h : HG} (hc : Cur x h) (m : Nat) : Cur (x.setCell ⟨h.p, 3, none⟩ (.int .i64 m)) { h with m := m } := by
  have t : Touch (fun k => k = h.p) x (x.setCell ⟨h.p, 3, none⟩ (.int .i64 m)) := (Touch.refl (fun k => k = h.p) x).setCell (p := ⟨h.p, 3, none⟩) (fun _ => rfl) _
  refine ⟨?_, hc.rb.touch t (fun g e e' => hc.pb (by rw [← e']; exact e)), hc.rl.touch t (fun g e e' => hc.pl (by rw [← e']; exact e)), hc.ro.touch t (fun g e e' => hc.po (by rw [← e']; exact e)), hc.pb, hc.pl, hc.po, hc.bl, hc.bo, hc.lo⟩
  rw [heap_setCell hc.hp]; rfl

/-- What 'keep' leaves. -/
structure Kept (x : World) (W : Nat) (psv : Value) (lead : Bool) (gh : Option Nat) (n : Nat) (H : Nat → HG) (h : HG) (y : World) (gh' : Option Nat) (cap' : Nat) (H' : Nat → HG) : Prop where
  wi : WI y W psv lead gh' (n + 4) cap' H'
  tch : Touch (fun k => k = W ∨ gh = some k ∨ k = h.p ∨ h.rows k) x y
  gha : ∀ k, gh' = some k → gh = some k ∨ x.heap.size ≤ k
  old : ∀ j, j < n → H' j = H j
  new : ∀ j, n ≤ j → j < n + 4 → ∀ k i, (H' j).foot k i → k = h.p ∨ h.rows k ∨ x.heap.size ≤ k

set_option maxRecDepth 100000 in
set_option maxHeartbeats 1000000 in
theorem keep_any (x : World) (W : Nat) (psv : Value) (lead : Bool) (gh : Option Nat) (n cap : Nat) (H : Nat → HG) (h : HG) (hw : WI x W psv lead gh n cap H) (hc : Cur x h)
    (hap : ∀ j, j < n → ∀ k i, (H j).foot k i → k ≠ h.p ∧ ¬ h.rows k) (hpW : h.p ≠ W) (hpg : gh ≠ some h.p) (hr : ∀ k, h.rows k → k ≠ W ∧ gh ≠ some k)
    (hn : n ≤ 99999990) (hb : h.bn ≤ 99999990) (hl : h.ln ≤ 99999990) (ho : h.on ≤ 99999990) :
    Calls Tryz.prog 58 #[.pointer (some ⟨W, 0, none⟩), .pointer (some ⟨h.p, 0, none⟩)] x fun e y => e = .returned (.tuple #[]) ∧ ∃ gh' cap' H', Kept x W psv lead gh n H h y gh' cap' H' := by
  have HWI := hid hw
  have HC := hid hc
  have HAP := hid hap
  have HPG := hid hpg
  have HR := hid hr
  have HPW := hid hpW
  have t0 : Hid (Touch (fun k => k = h.p) x (x.setCell ⟨h.p, 3, none⟩ (.int .i64 ((n + 1 : Nat) : Int)))) := (Touch.refl (fun k => k = h.p) x).setCell (p := ⟨h.p, 3, none⟩) (fun _ => rfl) _
  have C0 := hid (hc.setMark (n + 1))
  have a1 : x.cell? ⟨W, 1, none⟩ = _ := cell_of_heap hw.wb 1
  have a3 : x.cell? ⟨h.p, 3, none⟩ = _ := cell_of_heap hc.hp 3
  have f3 : x.frozen? ⟨h.p, 3, none⟩ = false := frozen_of_heap hc.hp 3
  simp only [List.getElem?_toArray, List.getElem?_cons_zero, List.getElem?_cons_succ] at a1 a3
  unfold sl at a1
  clear hw hc hap hpg hr hpW
  have e1 : ((n : Int) + 1) = ((n + 1 : Nat) : Int) := by omega
  have HE1 := hid e1
  clear e1
  obtain ⟨ip, hip, hip0, hip1, hip2⟩ := info_parts Tryz.info124
  go_enter Tryz.func58, Tryz.ntmps58
  go_wp2_with fail
  rw [HE1.out]
  refine (marks_any { h with m := n + 1 } _ C0.out (by dsimp only; omega) (by dsimp only; omega) (by dsimp only; omega) (by dsimp only; omega)).mono ?_
  rintro e x1 ⟨rfl, q, c1, i1, hq, t1⟩
  have HC1 := hid c1
  have HI1 := hid i1
  have HQ := hid hq
  have T1 : Hid (Touch h.rows _ x1) := t1
  clear c1 i1 hq t1
  have W1 := hid (HWI.out.marks (h := h) HAP.out HPW.out HPG.out HR.out t0.out (by simp [World.setCell]) T1.out)
  clear a1 a3 f3
  have a1 : x1.cell? ⟨W, 1, none⟩ = _ := cell_of_heap W1.out.wb 1
  simp only [List.getElem?_toArray, List.getElem?_cons_zero, List.getElem?_cons_succ] at a1
  unfold sl at a1
  have ow1 : Hid (OwnRow (x1.alloc (.cells #[.pointer (some ⟨h.p, 0, none⟩)] 124)) 124 1 gh n cap) := W1.out.ow.alloc _
  go_wp2_with (at_builtin; refine wpList_app _ rfl (.tmp 21) (.tmp 23) 79 rfl 124 ip (.pointer none) 1 8 Tryz.underlying79 hip hip0 hip1 hip2 rfl gh n cap (by rfl) ow1.out ⟨x1.heap.size, 0, none⟩ 1 1 [.pointer (some ⟨h.p, 0, none⟩)] rfl rfl ?c1 ?c2 (by omega) (by omega) (by omega) ?_)
  case c1 =>
    intro j u hj
    match j, hj with
    | 0, hj => simp at hj; subst hj; simp [Addr.add]
  case c2 => intro u hu; simp at hu; subst hu; rfl
  intro k4 c4 y3 P
  have K0 := hid (KInv.first HWI.out HAP.out HPW.out HPG.out HR.out C0.out t0.out (by simp [World.setCell]) HC1.out HI1.out HQ.out T1.out ⟨by omega, by omega, by omega, by omega⟩ P rfl)
  have hWy : y3.heap[W]? = _ := P.touch.heapAt (o := .cells #[psv, sl gh n cap, .bool lead] 81 (0, 0)) (by rw [Below.heap_alloc _ _ _ (heap_lt W1.out.wb)]; exact W1.out.wb) W1.out.hw
  have b1 : y3.cell? ⟨W, 1, none⟩ = _ := cell_of_heap hWy 1
  have f1 : y3.frozen? ⟨W, 1, none⟩ = false := frozen_of_heap hWy 1
  simp only [List.getElem?_toArray, List.getElem?_cons_zero, List.getElem?_cons_succ] at b1
  clear hWy P
  go_wp2
  clear b1 f1 a1
  generalize y3.setCell ⟨W, 1, none⟩ (.slice (some ⟨k4, 0, none⟩) (n + 1) c4) = y4 at K0 ⊢
  go_loopw [4, 5] (fun v i yr => ∃ (r : Nat) (gh' : Option Nat) (cap' : Nat) (H' : Nat → HG) (g : HG), r ≤ 3 ∧ i = .int .i64 r ∧ v = .pointer (some ⟨g.p, 0, none⟩) ∧ KInv x W psv lead gh n H h r yr gh' cap' H' g) (fun _ i _ => 3 - (intOf i).toNat)
  case atStart => exact ⟨0, _, _, _, { h with m := n + 1, q := q }, by omega, rfl, rfl, K0.out⟩
  case round =>
    obtain ⟨r, gh', cap', H', g, hr3, rfl, rfl, K⟩ := hrel
    have HK := hid K
    by_cases hlt : r < 3
    · clear K
      have em := HK.out.em
      have ebn := HK.out.ebn
      have eln := HK.out.eln
      have eon := HK.out.eon
      have hm1 : g.m ≤ 100000000 := by omega
      have hm2 : g.bn ≤ 100000000 := by omega
      have hm3 : g.ln ≤ 100000000 := by omega
      have hm4 : g.on ≤ 100000000 := by omega
      clear em ebn eln eon
      go_wp2_with fail
      refine (longer_any g _ HK.out.cur HK.out.is HK.out.qok hm1 hm2 hm3 hm4).mono ?_
      rintro e y2 ⟨g2, rfl, L⟩
      have HL := hid L
      clear L
      have W2 := hid (HK.out.longer HL.out)
      have a1 : y2.cell? ⟨W, 1, none⟩ = _ := cell_of_heap W2.out.wb 1
      simp only [List.getElem?_toArray, List.getElem?_cons_zero, List.getElem?_cons_succ] at a1
      unfold sl at a1
      have ow2 : Hid (OwnRow (y2.alloc (.cells #[.pointer (some ⟨g2.p, 0, none⟩)] 124)) 124 1 gh' (n + 1 + r) cap') := W2.out.ow.alloc _
      go_wp2_with (at_builtin; refine wpList_app _ rfl (.tmp 38) (.tmp 40) 79 rfl 124 ip (.pointer none) 1 8 Tryz.underlying79 hip hip0 hip1 hip2 rfl gh' (n + 1 + r) cap' (by rfl) ow2.out ⟨y2.heap.size, 0, none⟩ 1 1 [.pointer (some ⟨g2.p, 0, none⟩)] rfl rfl ?d1 ?d2 (by omega) (by omega) (by omega) ?_)
      case d1 =>
        intro j u hj
        match j, hj with
        | 0, hj => simp at hj; subst hj; simp [Addr.add]
      case d2 => intro u hu; simp at hu; subst hu; rfl
      intro k5 c5 y5 P
      have K1 := hid (HK.out.step HL.out ⟨by omega, by omega, by omega, by omega⟩ P rfl)
      have hWy : y5.heap[W]? = _ := P.touch.heapAt (o := .cells #[psv, sl gh' (n + 1 + r) cap', .bool lead] 81 (0, 0)) (by rw [Below.heap_alloc _ _ _ (heap_lt W2.out.wb)]; exact W2.out.wb) W2.out.hw
      have b1 : y5.cell? ⟨W, 1, none⟩ = _ := cell_of_heap hWy 1
      have f1 : y5.frozen? ⟨W, 1, none⟩ = false := frozen_of_heap hWy 1
      simp only [List.getElem?_toArray, List.getElem?_cons_zero, List.getElem?_cons_succ] at b1
      clear hWy P
      go_wp2
      go_roundw
      case rel => exact ⟨r + 1, _, _, _, g2, by omega, by go_num, rfl, K1.out⟩
      case measure => simp [intOf]; omega
    · have e3 : r = 3 := by omega
      subst e3
      go_wp2
      go_end0
      exact ⟨rfl, gh', cap', H', K.wi, K.tch, K.gha, K.agree, K.new⟩

end Go.Proofs.YtolififimldmlaaGreat
