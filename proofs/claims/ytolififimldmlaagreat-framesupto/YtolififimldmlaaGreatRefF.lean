import Derived.Test.YtolififimldmlaaGreatRefE
set_option linter.unusedVariables false
set_option linter.unusedSimpArgs false
namespace Go.Proofs.YtolififimldmlaaGreat
open Go.RowKit
attribute [local go_sem ↓] Go.wp_at_zero Go.wp_at_succ

theorem tl_no (b : List UInt8) (h : takeLine b = none) : tlLine b = Ln.zero ∧ tlRest b = [] ∧ tlOk b = false := by simp [tlLine, tlRest, tlOk, h]
theorem tl_yes (b : List UInt8) (h3 : 3 ≤ b.length) (h : 3 + (b.getD 2 0).toNat ≤ b.length) :
    tlLine b = ⟨(b.getD 0 0).toNat, (b.getD 1 0).toNat, (b.drop 3).take (b.getD 2 0).toNat⟩ ∧ tlRest b = b.drop (3 + (b.getD 2 0).toNat) ∧ tlOk b = true := by
  have : takeLine b = some (⟨(b.getD 0 0).toNat, (b.getD 1 0).toNat, (b.drop 3).take (b.getD 2 0).toNat⟩, b.drop (3 + (b.getD 2 0).toNat)) := by
    unfold takeLine; rw [if_neg (by omega), if_neg (by omega)]
  simp [tlLine, tlRest, tlOk, this]

theorem extr (b : List UInt8) (i j : Nat) : (⟨b.toArray⟩ : ByteArray).extract i j = ⟨((b.drop i).take (j - i)).toArray⟩ := by
  apply ByteArray.ext
  rw [ByteArray.data_extract]
  simp [List.extract]

set_option maxHeartbeats 1000000 in
theorem lineAt_any (b : List UInt8) (w : World) (hn : b.length ≤ 100000000) :
    Calls Tryz.prog 145 #[.string ⟨b.toArray⟩] w fun e w' => e = .returned (.tuple #[.agg #[.int .i64 (tlLine b).c, .int .i64 (tlLine b).t, .string ⟨(tlLine b).s.toArray⟩], .string ⟨(tlRest b).toArray⟩, .bool (tlOk b)]) ∧ Below w.heap.size w w' := by
  rcases Nat.lt_or_ge b.length 3 with h3 | h3
  · obtain ⟨e1, e2, e3⟩ := tl_no b (by unfold takeLine; rw [if_pos h3])
    rw [e1, e2, e3]
    clear e1 e2 e3
    go_enter Tryz.func145, Tryz.ntmps145
    go_wp2
    exact bodyPost_ret (v := .tuple #[.agg #[.int .i64 0, .int .i64 0, .string ⟨#[]⟩], .string ⟨#[]⟩, .bool false]) (by simp [results, Tryz.results145, go_sem]) rfl ⟨rfl, (Below.refl _ _).alloc (Nat.le_refl _) _⟩
  · have i0 : ∀ h, (⟨b.toArray⟩ : ByteArray)[0]'h = b.getD 0 0 := fun h => by rw [getD_at b 0 0 (by omega)]; rfl
    have i1 : ∀ h, (⟨b.toArray⟩ : ByteArray)[1]'h = b.getD 1 0 := fun h => by rw [getD_at b 1 0 (by omega)]; rfl
    have i2 : ∀ h, (⟨b.toArray⟩ : ByteArray)[2]'h = b.getD 2 0 := fun h => by rw [getD_at b 2 0 (by omega)]; rfl
    have HY := hid (tl_yes b h3)
    have HN : Hid (b.length < 3 + (b.getD 2 0).toNat → takeLine b = none) := fun h => by unfold takeLine; rw [if_neg (by omega), if_pos h]
    generalize b.getD 0 0 = x at i0 HY
    generalize b.getD 1 0 = y at i1 HY
    generalize b.getD 2 0 = z at i2 HY HN
    have hx : x.toNat < 256 := x.toNat_lt
    have hy : y.toNat < 256 := y.toNat_lt
    have hz : z.toNat < 256 := z.toNat_lt
    rcases Nat.lt_or_ge b.length (3 + z.toNat) with hb | hb
    · obtain ⟨e1, e2, e3⟩ := tl_no b (HN.out hb)
      rw [e1, e2, e3]
      clear e1 e2 e3
      go_enter Tryz.func145, Tryz.ntmps145
      go_wp2
      exact bodyPost_ret (v := .tuple #[.agg #[.int .i64 0, .int .i64 0, .string ⟨#[]⟩], .string ⟨#[]⟩, .bool false]) (by simp [results, Tryz.results145, go_sem]) rfl ⟨rfl, (Below.refl _ _).alloc (Nat.le_refl _) _⟩
    · obtain ⟨e1, e2, e3⟩ := HY.out hb
      rw [e1, e2, e3]
      clear e1 e2 e3
      go_enter Tryz.func145, Tryz.ntmps145
      go_wp2
      go_region
      all_goals go_wp2
      refine bodyPost_ret (v := .tuple #[.agg #[.int .i64 x.toNat, .int .i64 y.toNat, .string ((⟨b.toArray⟩ : ByteArray).extract 3 (3 + z.toNat))], .string ((⟨b.toArray⟩ : ByteArray).extract (3 + z.toNat) b.length), .bool true]) (by simp [results, Tryz.results145, go_sem]) rfl ⟨?_, ((Below.refl _ _).alloc (Nat.le_refl _) _).drew⟩
      rw [extr, extr, show 3 + z.toNat - 3 = z.toNat from by omega, List.take_of_length_le (l := b.drop (3 + z.toNat)) (by rw [List.length_drop]; omega)]

end Go.Proofs.YtolififimldmlaaGreat
