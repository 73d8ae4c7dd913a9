import Derived.Test.YtolififimldmlaaGreatRefC
set_option linter.unusedVariables false
set_option linter.unusedSimpArgs false
namespace Go.Proofs.YtolififimldmlaaGreat
open Go.RowKit
attribute [local go_sem ↓] Go.wp_at_zero Go.wp_at_succ

/-- 'string(b)' of bytes that lie at a block's head. -/
theorem convN (q n c : Nat) (xs : List Int) (w : World) (hn : xs.length = n) (h : ∀ i, i < n → w.cell? ⟨q, i, none⟩ = some (.int .u8 (xs.getD i 0))) :
    (convert 31 9 (.slice (some ⟨q, 0, none⟩) n c)).run Tryz.prog w = .ok (.string ⟨(xs.map fun n => UInt8.ofNat n.toNat).toArray⟩) w :=
  run_convert_bytes_arg w 31 5 Tryz.underlying31 Tryz.underlying5 q 0 n c xs hn (fun i hi => by rw [Nat.zero_add]; exact h i hi) 9 Tryz.underlying9

theorem conv3 (q c : Nat) (x0 x1 x2 : Int) (w : World) (h0 : w.cell? ⟨q, 0, none⟩ = some (.int .u8 x0)) (h1 : w.cell? ⟨q, 1, none⟩ = some (.int .u8 x1)) (h2 : w.cell? ⟨q, 2, none⟩ = some (.int .u8 x2)) :
    (convert 31 9 (.slice (some ⟨q, 0, none⟩) 3 c)).run Tryz.prog w = .ok (.string ⟨[UInt8.ofNat x0.toNat, UInt8.ofNat x1.toNat, UInt8.ofNat x2.toNat].toArray⟩) w :=
  convN q 3 c [x0, x1, x2] w rfl (fun i hi => by
    match i, hi with
    | 0, _ => exact h0
    | 1, _ => exact h1
    | 2, _ => exact h2)

theorem conv1' (q c : Nat) (x0 : Int) (w : World) (h0 : w.cell? ⟨q, 0, none⟩ = some (.int .u8 x0)) :
    (convert 31 9 (.slice (some ⟨q, 0, none⟩) 1 c)).run Tryz.prog w = .ok (.string ⟨[UInt8.ofNat x0.toNat].toArray⟩) w :=
  convN q 1 c [x0] w rfl (fun i hi => by
    match i, hi with
    | 0, _ => exact h0)
theorem conv2 (q c : Nat) (x0 x1 : Int) (w : World) (h0 : w.cell? ⟨q, 0, none⟩ = some (.int .u8 x0)) (h1 : w.cell? ⟨q, 1, none⟩ = some (.int .u8 x1)) :
    (convert 31 9 (.slice (some ⟨q, 0, none⟩) 2 c)).run Tryz.prog w = .ok (.string ⟨[UInt8.ofNat x0.toNat, UInt8.ofNat x1.toNat].toArray⟩) w :=
  convN q 2 c [x0, x1] w rfl (fun i hi => by
    match i, hi with
    | 0, _ => exact h0
    | 1, _ => exact h1)
theorem conv6 (q c : Nat) (x0 x1 x2 x3 x4 x5 : Int) (w : World) (h0 : w.cell? ⟨q, 0, none⟩ = some (.int .u8 x0)) (h1 : w.cell? ⟨q, 1, none⟩ = some (.int .u8 x1)) (h2 : w.cell? ⟨q, 2, none⟩ = some (.int .u8 x2))
    (h3 : w.cell? ⟨q, 3, none⟩ = some (.int .u8 x3)) (h4 : w.cell? ⟨q, 4, none⟩ = some (.int .u8 x4)) (h5 : w.cell? ⟨q, 5, none⟩ = some (.int .u8 x5)) :
    (convert 31 9 (.slice (some ⟨q, 0, none⟩) 6 c)).run Tryz.prog w = .ok (.string ⟨[UInt8.ofNat x0.toNat, UInt8.ofNat x1.toNat, UInt8.ofNat x2.toNat, UInt8.ofNat x3.toNat, UInt8.ofNat x4.toNat, UInt8.ofNat x5.toNat].toArray⟩) w :=
  convN q 6 c [x0, x1, x2, x3, x4, x5] w rfl (fun i hi => by
    match i, hi with
    | 0, _ => exact h0
    | 1, _ => exact h1
    | 2, _ => exact h2
    | 3, _ => exact h3
    | 4, _ => exact h4
    | 5, _ => exact h5)

theorem byteOf_nat (n : Nat) : byteOf (n : Int) = UInt8.ofNat (n % 256) := by
  unfold byteOf
  congr 1
theorem chkStep (c x : Nat) (hc : c < 65536) (hx : x < 256) : (wrap64 ((c : Int) * 31 + wrap64 (x : Int))).tmod 65536 = (((c * 31 + x) % 65536 : Nat) : Int) := by
  have e1 : wrap64 (x : Int) = x := by unfold wrap64; omega
  have e2 : wrap64 ((c : Int) * 31 + (x : Int)) = ((c * 31 + x : Nat) : Int) := by unfold wrap64; omega
  rw [e1, e2, Int.tmod_eq_emod_of_nonneg (by omega)]; omega
theorem lineBytes_len (l : Ln) : (lineBytes l).length = l.s.length + 3 := by simp [lineBytes]
theorem str_val {a b : ByteArray} (h : a.data.toList = b.data.toList) : Value.string a = Value.string b := by
  have : a = b := ByteArray.ext (Array.toList_inj.1 h)
  rw [this]
theorem ret_str {a b : ByteArray} (h : a.data.toList = b.data.toList) : Ending.returned (.string a) = .returned (.string b) := by rw [str_val h]

set_option maxHeartbeats 400000 in
theorem lineText_any (l : Ln) (w : World) (hn : l.s.length ≤ 100000000) :
    Calls Tryz.prog 94 #[.agg #[.int .i64 l.c, .int .i64 l.t, .string ⟨l.s.toArray⟩]] w fun e w' => e = .returned (.string ⟨(lineBytes l).toArray⟩) ∧ Below w.heap.size w w' := by
  obtain ⟨c, t, s⟩ := l
  dsimp only at hn ⊢
  have hconv := conv3
  go_enter Tryz.func94, Tryz.ntmps94
  go_wp2
  go_ret
  refine ⟨ret_str ?_, ((Below.refl _ _).alloc (Nat.le_refl _) _).alloc (by simp) _⟩
  rw [ByteArray.data_append, Array.toList_append]
  show [UInt8.ofNat (c % 256).toNat, UInt8.ofNat (t % 256).toNat, UInt8.ofNat (s.length % 256)] ++ s = lineBytes ⟨c, t, s⟩
  rw [← byteOf_nat]; rfl

set_option maxHeartbeats 400000 in
theorem linesText_any (a : Option Addr) (cap : Nat) (ls : List Ln) (w : World) (hl : LinesAt w a ls) (hn : ls.length ≤ 100000000) (hs : ∀ l ∈ ls, l.s.length ≤ 8) :
    Calls Tryz.prog 95 #[sla a ls.length cap] w fun e w' => e = .returned (.string ⟨(linesBytes ls).toArray⟩) ∧ Below w.heap.size w w' := by
  have HL := hid hl
  have HS := hid hs
  clear hl hs
  unfold sla
  have hconv := conv1'
  go_enter Tryz.func95, Tryz.ntmps95
  go_wp2
  go_loopw [3, 4] (fun v i wr => ∃ (k : Nat) (l : List UInt8), k ≤ ls.length ∧ i = .int .i64 k ∧ v = .string ⟨l.toArray⟩ ∧ l.length ≤ 1 + 11 * k ∧ Hid (l = byteOf ls.length :: manyBytes (ls.take k)) ∧ Below w.heap.size w wr) (fun _ i _ => ls.length - (intOf i).toNat)
  case atStart => exact ⟨0, [byteOf ls.length], Nat.zero_le _, rfl, by rw [byteOf_nat], by simp, rfl, (Below.refl _ _).alloc (Nat.le_refl _) _⟩
  case round =>
    obtain ⟨k, l, hk, rfl, rfl, hll, hv, hb⟩ := hrel
    have HB := hid hb
    clear hb
    by_cases hlt : k < ls.length
    · have HLr := hid (HL.out.below HB.out)
      obtain ⟨g, o, rfl, h0, h1, h2⟩ := HLr.out k hlt
      have hx8 := HS.out ls[k] (List.getElem_mem hlt)
      have HT : Hid (byteOf ls.length :: manyBytes (ls.take (k + 1)) = l ++ lineBytes ls[k]) := by
        show _ = _
        rw [take_snoc ls k hlt, manyBytes_snoc, hv.out]; rfl
      generalize hx : ls[k] = x at hx8 HT h0 h1 h2
      clear hx
      have hlb := lineBytes_len x
      have hlb2 : (lineBytes x).length ≤ 11 := by omega
      clear hlb
      go_wp2_with fail
      refine (lineText_any x _ (by omega)).mono ?_
      rintro e w1 ⟨rfl, hb1⟩
      have HB1 := hid (HB.out.trans (hb1.mono HB.out.size))
      clear hb1
      go_wp2
      go_roundw
      case rel =>
        exact ⟨k + 1, l ++ lineBytes x, by omega, by go_num, str_val (by simp), by simp; omega, HT.out.symm, HB1.out⟩
      case measure => simp [intOf]; omega
    · go_wp2
      go_ret
      have e : k = ls.length := by omega
      subst e
      refine ⟨ret_str ?_, HB.out⟩
      have := hv.out
      rw [List.take_length] at this
      simp [this, linesBytes]

theorem chkInt (l : List UInt8) (k : Nat) (h : k < l.length) : ((chk (l.take k) : Int) * 31 + (l[k].toNat : Int)) % 65536 = (chk (l.take (k + 1)) : Int) := by
  rw [take_snoc l k h, chk_snoc]; omega

set_option maxHeartbeats 400000 in
theorem checked_any (l : List UInt8) (w : World) (hn : l.length ≤ 100000000) :
    Calls Tryz.prog 96 #[.string ⟨l.toArray⟩] w fun e w' => e = .returned (.string ⟨(withChk l).toArray⟩) ∧ Below w.heap.size w w' := by
  have hconv := conv2
  go_enter Tryz.func96, Tryz.ntmps96
  go_wp2
  go_loop [3, 4] (fun n i => ∃ (k c : Nat), k ≤ l.length ∧ i = .int .i64 k ∧ n = .int .i64 c ∧ c < 65536 ∧ Hid (c = chk (l.take k))) (fun _ i => l.length - (intOf i).toNat)
  case atStart => exact ⟨0, 7, Nat.zero_le _, rfl, rfl, by omega, rfl⟩
  case round =>
    obtain ⟨k, c, hk, rfl, rfl, hc, hv⟩ := hrel
    by_cases hlt : k < l.length
    · have HT := hid (chkInt l k hlt)
      have hb : (l[k].toNat : Int) < 256 := by have := l[k].toNat_lt; omega
      have hb0 : (0 : Int) ≤ (l[k].toNat : Int) := by omega
      go_wp2
      go_round
      case rel => exact ⟨k + 1, (c * 31 + l[k].toNat) % 65536, by omega, by go_num, congrArg _ (chkStep c l[k].toNat hc l[k].toNat_lt), Nat.mod_lt _ (by omega), by show _ = _; rw [take_snoc l k hlt, chk_snoc, ← hv.out]⟩
      case measure => simp [intOf]; omega
    · go_wp2
      go_ret
      have e : k = l.length := by omega
      subst e
      refine ⟨ret_str ?_, (Below.refl _ _).alloc (Nat.le_refl _) _⟩
      have hv := hv.out
      rw [List.take_length] at hv
      subst hv
      rw [ByteArray.data_append, Array.toList_append]
      show l ++ _ = withChk l
      unfold withChk
      rfl

end Go.Proofs.YtolififimldmlaaGreat
