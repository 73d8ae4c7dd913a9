import Derived.Test.YtolififimldmlaaGreatRefA
set_option linter.unusedVariables false
set_option linter.unusedSimpArgs false
namespace Go.Proofs.YtolififimldmlaaGreat
open Go.RowKit
attribute [local go_sem ↓] Go.wp_at_zero Go.wp_at_succ

theorem bcell {W w1 : World} (hb : Below W.heap.size W w1) : (∀ b o, b < W.heap.size → w1.cell? ⟨b, o, none⟩ = W.cell? ⟨b, o, none⟩) ∧ (∀ b o, b < W.heap.size → w1.frozen? ⟨b, o, none⟩ = W.frozen? ⟨b, o, none⟩) :=
  ⟨fun b o h => hb.cell (p := ⟨b, o, none⟩) h, fun b o h => hb.frozen (p := ⟨b, o, none⟩) h⟩

theorem LinesAt.take {w : World} {a : Option Addr} {ls : List Ln} (h : LinesAt w a ls) (k : Nat) : LinesAt w a (ls.take k) := fun j hj => by
  have hj' : j < ls.length := by simp at hj; omega
  obtain ⟨g, o, e, h0, h1, h2⟩ := h j hj'
  exact ⟨g, o, e, by simpa using h0, by simpa using h1, by simpa using h2⟩

theorem LinesAt.mono {w w' : World} {B : Nat} {a : Option Addr} {ls : List Ln} (h : LinesAt w a ls) (hb : Below B w w') (hB : w.heap.size ≤ B) : LinesAt w' a ls := fun j hj => by
  obtain ⟨g, o, e, h0, h1, h2⟩ := h j hj
  have q0 := World.block_lt_of_cell? _ _ h0
  dsimp only at q0
  exact ⟨g, o, e, (hb.cell (p := ⟨g, o + j * 3, none⟩) (by dsimp only; omega)).trans h0, (hb.cell (p := ⟨g, o + j * 3 + 1, none⟩) (by dsimp only; omega)).trans h1, (hb.cell (p := ⟨g, o + j * 3 + 2, none⟩) (by dsimp only; omega)).trans h2⟩

theorem turn_at (g o n cap : Nat) (ls : List Ln) (c : Int) (w : World) (hl : LinesAt w (some ⟨g, o, none⟩) ls) (hn : ls.length ≤ 100000000) (e : ls.length = n) :
    Calls Tryz.prog 149 #[.slice (some ⟨g, o, none⟩) n cap, .int .i64 c] w fun e w' => e = .returned (.int .i64 (turnOf ls c)) ∧ w' = w := by
  subst e; exact turn_any (some ⟨g, o, none⟩) cap ls c w hl hn

set_option maxHeartbeats 1000000 in
theorem areLines_any (a : Option Addr) (cap : Nat) (ls : List Ln) (w : World) (hl : LinesAt w a ls) (hn : ls.length ≤ 100000000) (hcap : ls.length ≤ cap) :
    Calls Tryz.prog 144 #[sla a ls.length cap] w fun e w' => e = .returned (.bool (linesOk ls)) ∧ Below w.heap.size w w' := by
  have HL := hid hl
  clear hl
  unfold sla
  go_enter Tryz.func144, Tryz.ntmps144
  go_wp2
  go_loopw [3] (fun i wr => ∃ k : Nat, k ≤ ls.length ∧ i = .int .i64 k ∧ linesRise ls k = true ∧ Below w.heap.size w wr) (fun i _ => ls.length - (intOf i).toNat)
  case atStart => exact ⟨0, Nat.zero_le _, rfl, rfl, Below.refl _ _⟩
  case round =>
    obtain ⟨k, hk, rfl, hri, hb⟩ := hrel
    have HR := hid hri
    have HB := hid hb
    clear hri hb
    by_cases hlt : k < ls.length
    · have HLr := hid (HL.out.below HB.out)
      obtain ⟨g, o, rfl, h0, h1, h2⟩ := HLr.out k hlt
      have HS := hid (linesRise_succ ls k)
      have HF := hid (fun e => linesRise_false ls hlt e)
      have HX : Hid (riseAt ls k = (ls[k].ok && decide (turnOf (ls.take k) ls[k].c < ls[k].t))) := by unfold riseAt; rw [getD_at ls k _ hlt]; rfl
      have HT : Hid ((ls.take k).length = k) := by show (ls.take k).length = k; simp; omega
      generalize hx : ls[k] = x at HX h0 h1 h2
      go_wp2_with fail
      refine (isLine_any x _).mono ?_
      rintro e w1 ⟨rfl, hb1⟩
      have HB1 := hid hb1
      have g0 : w1.cell? ⟨g, o + k * 3, none⟩ = _ := (hb1.cell (World.block_lt_of_cell? _ _ h0)).trans h0
      have g1 : w1.cell? ⟨g, o + k * 3 + 1, none⟩ = _ := (hb1.cell (World.block_lt_of_cell? _ _ h1)).trans h1
      clear hb1 h0 h1 h2 hx
      have HLt := hid ((HLr.out.below HB1.out).take k)
      have hik : (0 : Int) ≤ (k : Int) := by omega
      have hik2 : (k : Int) ≤ (cap : Int) := by omega
      have hik3 : (k : Int) < (ls.length : Int) := by omega
      go_wp2_with fail
      go_quiet ((go_at_call 149; exact Calls.quiet_of_same (turn_at g o k cap (ls.take k) x.c _ HLt.out (by have := HT.out; omega) HT.out)))
      generalize turnOf (ls.take k) x.c = T at HX ⊢
      cases hok : x.ok
      · go_wp2
        go_ret
        exact ⟨ret_bool (HF.out (by rw [HX.out, hok]; rfl)).symm, below_drewN (HB.out.trans (HB1.out.mono HB.out.size)) _⟩
      · by_cases hT : T < x.t
        · go_wp2
          go_roundw
          case rel =>
            exact ⟨k + 1, by omega, by go_num, by rw [HS.out, HR.out, HX.out, hok]; simp [hT], below_drewN (HB.out.trans (HB1.out.mono HB.out.size)) _⟩
          case measure => simp [intOf]; omega
        · have hT' : x.t ≤ T := by omega
          go_wp2
          go_ret
          exact ⟨ret_bool (HF.out (by rw [HX.out, hok]; simp; omega)).symm, below_drewN (HB.out.trans (HB1.out.mono HB.out.size)) _⟩
    · go_wp2
      go_ret
      have e : k = ls.length := by omega
      subst e
      refine ⟨ret_bool ?_, HB.out⟩
      unfold linesOk
      rw [HR.out, Bool.eq_iff_iff]; simp; omega

end Go.Proofs.YtolififimldmlaaGreat
