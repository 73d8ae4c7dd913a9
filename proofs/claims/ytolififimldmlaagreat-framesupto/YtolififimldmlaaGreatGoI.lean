import Derived.Test.YtolififimldmlaaGreatGoH
set_option linter.unusedVariables false
set_option linter.unusedSimpArgs false
namespace Go.Proofs.YtolififimldmlaaGreat
open Go.RowKit
attribute [local go_sem ↓] Go.wp_at_zero Go.wp_at_succ

theorem sum_at (a : Option Addr) (n cap : Nat) (l : List UInt8) (w : World) (hl : BytesIn w a l) (e : l.length = n) (hn : l.length ≤ 100000000) :
    Calls Tryz.prog 117 #[.slice a n cap] w fun e w' => e = .returned (.int .u16 (chk l : Int)) ∧ w' = w := by subst e; exact sum_any a cap l w hl hn

theorem u8_beq (x : UInt8) (m : Nat) (i : Int) (hm : m < 256) (hi : i = m) : (x == UInt8.ofNat m) = decide ((x.toNat : Int) = i) := by
  subst hi
  rw [Bool.eq_iff_iff, beq_iff_eq, decide_eq_true_eq, ← UInt8.toNat_inj, UInt8.toNat_ofNat', Nat.mod_eq_of_lt (by omega)]
  omega

/-- The check was taken off. -/
def Stripped (w : World) (a : Option Addr) (cap : Nat) (b : List UInt8) (e : Ending) (w' : World) : Prop :=
  e = .returned (.tuple #[if stripOk b then .slice a (b.length - 2) cap else .slice none 0 0, .bool (stripOk b)]) ∧ w' = w
theorem stripped_no {w : World} {a : Option Addr} {cap : Nat} {b : List UInt8} (h : stripOk b = false) : Stripped w a cap b (.returned (.tuple #[.slice none 0 0, .bool false])) w := ⟨by rw [h]; rfl, rfl⟩
theorem stripped_yes {w : World} {a : Option Addr} {cap n : Nat} {b : List UInt8} (h : stripOk b = true) (e : b.length = n + 2) : Stripped w a cap b (.returned (.tuple #[.slice a n cap, .bool true])) w := ⟨by rw [h, e]; rfl, rfl⟩

set_option maxRecDepth 100000 in
set_option maxHeartbeats 1000000 in
theorem strip_go (a : Option Addr) (cap : Nat) (b : List UInt8) (w : World) (hb : BytesIn w a b) (hn : b.length ≤ 100000000) (hcap : b.length ≤ cap) :
    Calls Tryz.prog 73 #[sla a b.length cap] w (Stripped w a cap b) := by
  have HB := hid hb
  clear hb
  unfold sla
  rcases Nat.lt_or_ge b.length 2 with h2 | h2
  · have HN : Hid (stripOk b = false) := by show _ = _; unfold stripOk; rw [show decide (2 ≤ b.length) = false from by simp; omega]; rfl
    go_enter Tryz.func73, Tryz.ntmps73
    go_wp2
    go_ret2
    exact stripped_no HN.out
  · obtain ⟨g, o, rfl, hx0⟩ := HB.out 0 (by omega)
    clear hx0
    obtain ⟨n, hbl⟩ : ∃ n, b.length = n + 2 := ⟨b.length - 2, by omega⟩
    have c0 := HB.out.cell n (by omega)
    have c1 := HB.out.cell (n + 1) (by omega)
    have HS : Hid (stripOk b = ((b.getD n 0 == UInt8.ofNat (chk (b.take n) % 256)) && (b.getD (n + 1) 0 == UInt8.ofNat (chk (b.take n) / 256)))) := by
      show _ = _
      unfold stripOk
      rw [hbl]
      simp
    have HT : Hid (BytesIn w (some ⟨g, o, none⟩) (b.take n) ∧ (b.take n).length = n) := ⟨HB.out.take n, by rw [List.length_take]; omega⟩
    have HBL := hid hbl
    rw [hbl] at hn hcap ⊢
    clear h2 hbl HB
    have hcs := chk_lt (b.take n)
    generalize b.getD n 0 = x at c0 HS
    generalize b.getD (n + 1) 0 = y at c1 HS
    have hx : x.toNat < 256 := x.toNat_lt
    have hy : y.toNat < 256 := y.toNat_lt
    have hi0 : (0 : Int) ≤ (n : Int) := by omega
    have hi1 : (n : Int) ≤ (cap : Int) := by omega
    go_enter Tryz.func73, Tryz.ntmps73
    go_wp2_with fail
    refine (sum_at _ n cap (b.take n) _ HT.out.1 HT.out.2 (by have := HT.out.2; omega)).mono ?_
    rintro e w1 ⟨rfl, rfl⟩
    generalize chk (b.take n) = s at HS hcs
    have e0 : Hid ((x == UInt8.ofNat (s % 256)) = decide ((x.toNat : Int) = (s : Int) % 256)) := u8_beq x (s % 256) (s % 256 : Int) (by omega) (by omega)
    have e1 : Hid ((y == UInt8.ofNat (s / 256)) = decide ((y.toNat : Int) = (s : Int) / 256)) := u8_beq y (s / 256) (s / 256 : Int) (by omega) (by omega)
    go_wp2
    · have hq : ((y.toNat : Int) != (s : Int) / 256) = true := by assumption
      go_ret2
      exact stripped_no (by rw [HS.out, e1.out]; simp only [bne_iff_ne, ne_eq] at hq; simp [hq])
    · have hp : (x.toNat : Int) = (s : Int) % 256 := by assumption
      have hq : ((y.toNat : Int) != (s : Int) / 256) = false := by assumption
      go_ret2
      exact stripped_yes (by rw [HS.out, e0.out, e1.out]; simp only [bne_eq_false_iff_eq] at hq; simp [hp, hq]) HBL.out
    · have hp : ¬ (x.toNat : Int) = (s : Int) % 256 := by assumption
      go_ret2
      exact stripped_no (by rw [HS.out, e0.out]; simp [hp])

end Go.Proofs.YtolififimldmlaaGreat
