import Derived.Test.YtolififimldmlaaGreatPart01
set_option linter.unusedVariables false
set_option linter.unusedSimpArgs false
namespace Go.Proofs.YtolififimldmlaaGreat
open Go.RowKit
attribute [local go_sem ↓] Go.wp_at_zero Go.wp_at_succ

/-- 'string(b)' of bytes that lie at a block's head. -/
theorem convN (q n c : Nat) (xs : List Int) (w : World) (hn : xs.length = n) (h : ∀ i, i < n → w.cell? ⟨q, i, none⟩ = some (.int .u8 (xs.getD i 0))) :
    (convert 31 9 (.slice (some ⟨q, 0, none⟩) n c)).run Tryz.prog w = .ok (.string ⟨(xs.map fun n => UInt8.ofNat n.toNat).toArray⟩) w :=
  run_convert_bytes_arg w 31 5 Tryz.underlying31 Tryz.underlying5 q 0 n c xs hn (fun i hi => by rw [Nat.zero_add]; exact h i hi) 9 Tryz.underlying9

theorem conv3 (q c : Nat) (x0 x1 x2 : Int) (w : World) (h0 : w.cell? ⟨q, 0, none⟩ = some (.int .u8 x0)) (h1 : w.cell? ⟨q, 1, none⟩ = some (.int .u8 x1)) (h2 : w.cell? ⟨q, 2, none⟩ = some (.int .u8 x2)) :
    (convert 31 9 (.slice (some ⟨q, 0, none⟩) 3 c)).run Tryz.prog w = .ok (.string ⟨[UInt8.ofNat x0.toNat, UInt8.ofNat x1.toNat, UInt8.ofNat x2.toNat].toArray⟩) w :=
  convN q 3 c [x0, x1, x2] w rfl (fun i hi => by
    match i, hi with
    | 0, _ => exact h0
    | 1, _ => exact h1
    | 2, _ => exact h2)

theorem conv1' (q c : Nat) (x0 : Int) (w : World) (h0 : w.cell? ⟨q, 0, none⟩ = some (.int .u8 x0)) :
    (convert 31 9 (.slice (some ⟨q, 0, none⟩) 1 c)).run Tryz.prog w = .ok (.string ⟨[UInt8.ofNat x0.toNat].toArray⟩) w :=
  convN q 1 c [x0] w rfl (fun i hi => by
    match i, hi with
    | 0, _ => exact h0)
theorem conv2 (q c : Nat) (x0 x1 : Int) (w : World) (h0 : w.cell? ⟨q, 0, none⟩ = some (.int .u8 x0)) (h1 : w.cell? ⟨q, 1, none⟩ = some (.int .u8 x1)) :
    (convert 31 9 (.slice (some ⟨q, 0, none⟩) 2 c)).run Tryz.prog w = .ok (.string ⟨[UInt8.ofNat x0.toNat, UInt8.ofNat x1.toNat].toArray⟩) w :=
  convN q 2 c [x0, x1] w rfl (fun i hi => by
    match i, hi with
    | 0, _ => exact h0
    | 1, _ => exact h1)
theorem conv6 (q c : Nat) (x0 x1 x2 x3 x4 x5 : Int) (w : World) (h0 : w.cell? ⟨q, 0, none⟩ = some (.int .u8 x0)) (h1 : w.cell? ⟨q, 1, none⟩ = some (.int .u8 x1)) (h2 : w.cell? ⟨q, 2, none⟩ = some (.int .u8 x2))
    (h3 : w.cell? ⟨q, 3, none⟩ = some (.int .u8 x3)) (h4 : w.cell? ⟨q, 4, none⟩ = some (.int .u8 x4)) (h5 : w.cell? ⟨q, 5, none⟩ = some (.int .u8 x5)) :
    (convert 31 9 (.slice (some ⟨q, 0, none⟩) 6 c)).run Tryz.prog w = .ok (.string ⟨[UInt8.ofNat x0.toNat, UInt8.ofNat x1.toNat, UInt8.ofNat x2.toNat, UInt8.ofNat x3.toNat, UInt8.ofNat x4.toNat, UInt8.ofNat x5.toNat].toArray⟩) w :=
  convN q 6 c [x0, x1, x2, x3, x4, x5] w rfl (fun i hi => by
    match i, hi with
    | 0, _ => exact h0
    | 1, _ => exact h1
    | 2, _ => exact h2
    | 3, _ => exact h3
    | 4, _ => exact h4
    | 5, _ => exact h5)

theorem byteOf_nat (n : Nat) : byteOf (n : Int) = UInt8.ofNat (n % 256) := by
  unfold byteOf
  congr 1
theorem chkStep (c x : Nat) (hc : c < 65536) (hx : x < 256) : (wrap64 ((c : Int) * 31 + wrap64 (x : Int))).tmod 65536 = (((c * 31 + x) % 65536 : Nat) : Int) := by
  have e1 : wrap64 (x : Int) = x := by unfold wrap64; omega
  have e2 : wrap64 ((c : Int) * 31 + (x : Int)) = ((c * 31 + x : Nat) : Int) := by unfold wrap64; omega
  rw [e1, e2, Int.tmod_eq_emod_of_nonneg (by omega)]; omega
theorem lineBytes_len (l : Ln) : (lineBytes l).length = l.s.length + 3 := by simp [lineBytes]
theorem str_val {a b : ByteArray} (h : a.data.toList = b.data.toList) : Value.string a = Value.string b := by
  have : a = b := ByteArray.ext (Array.toList_inj.1 h)
  rw [this]
theorem ret_str {a b : ByteArray} (h : a.data.toList = b.data.toList) : Ending.returned (.string a) = .returned (.string b) := by rw [str_val h]

set_option maxHeartbeats 400000 in
theorem lineText_any (l : Ln) (w : World) (hn : l.s.length ≤ 100000000) :
    Calls Tryz.prog 94 #[.agg #[.int .i64 l.c, .int .i64 l.t, .string ⟨l.s.toArray⟩]] w fun e w' => e = .returned (.string ⟨(lineBytes l).toArray⟩) ∧ Below w.heap.size w w' := by
  obtain ⟨c, t, s⟩ := l
  dsimp only at hn ⊢
  have hconv := conv3
  go_enter Tryz.func94, Tryz.ntmps94
  go_wp2
  go_ret
  refine ⟨ret_str ?_, ((Below.refl _ _).alloc (Nat.le_refl _) _).alloc (by simp) _⟩
  rw [ByteArray.data_append, Array.toList_append]
  show [UInt8.ofNat (c % 256).toNat, UInt8.ofNat (t % 256).toNat, UInt8.ofNat (s.length % 256)] ++ s = lineBytes ⟨c, t, s⟩
  rw [← byteOf_nat]; rfl

set_option maxHeartbeats 400000 in
theorem linesText_any (a : Option Addr) (cap : Nat) (ls : List Ln) (w : World) (hl : LinesAt w a ls) (hn : ls.length ≤ 100000000) (hs : ∀ l ∈ ls, l.s.length ≤ 8) :
    Calls Tryz.prog 95 #[sla a ls.length cap] w fun e w' => e = .returned (.string ⟨(linesBytes ls).toArray⟩) ∧ Below w.heap.size w w' := by
  have HL := hid hl
  have HS := hid hs
  clear hl hs
  unfold sla
  have hconv := conv1'
  go_enter Tryz.func95, Tryz.ntmps95
  go_wp2
  go_loopw [3, 4] (fun v i wr => ∃ (k : Nat) (l : List UInt8), k ≤ ls.length ∧ i = .int .i64 k ∧ v = .string ⟨l.toArray⟩ ∧ l.length ≤ 1 + 11 * k ∧ Hid (l = byteOf ls.length :: manyBytes (ls.take k)) ∧ Below w.heap.size w wr) (fun _ i _ => ls.length - (intOf i).toNat)
  case atStart => exact ⟨0, [byteOf ls.length], Nat.zero_le _, rfl, by rw [byteOf_nat], by simp, rfl, (Below.refl _ _).alloc (Nat.le_refl _) _⟩
  case round =>
    obtain ⟨k, l, hk, rfl, rfl, hll, hv, hb⟩ := hrel
    have HB := hid hb
    clear hb
    by_cases hlt : k < ls.length
    · have HLr := hid (HL.out.below HB.out)
      obtain ⟨g, o, rfl, h0, h1, h2⟩ := HLr.out k hlt
      have hx8 := HS.out ls[k] (List.getElem_mem hlt)
      have HT : Hid (byteOf ls.length :: manyBytes (ls.take (k + 1)) = l ++ lineBytes ls[k]) := by
        show _ = _
        rw [take_snoc ls k hlt, manyBytes_snoc, hv.out]; rfl
      generalize hx : ls[k] = x at hx8 HT h0 h1 h2
      clear hx
      have hlb := lineBytes_len x
      have hlb2 : (lineBytes x).length ≤ 11 := by omega
      clear hlb
      go_wp2_with fail
      refine (lineText_any x _ (by omega)).mono ?_
      rintro e w1 ⟨rfl, hb1⟩
      have HB1 := hid (HB.out.trans (hb1.mono HB.out.size))
      clear hb1
      go_wp2
      go_roundw
      case rel =>
        exact ⟨k + 1, l ++ lineBytes x, by omega, by go_num, str_val (by simp), by simp; omega, HT.out.symm, HB1.out⟩
      case measure => simp [intOf]; omega
    · go_wp2
      go_ret
      have e : k = ls.length := by omega
      subst e
      refine ⟨ret_str ?_, HB.out⟩
      have := hv.out
      rw [List.take_length] at this
      simp [this, linesBytes]

theorem chkInt (l : List UInt8) (k : Nat) (h : k < l.length) : ((chk (l.take k) : Int) * 31 + (l[k].toNat : Int)) % 65536 = (chk (l.take (k + 1)) : Int) := by
  rw [take_snoc l k h, chk_snoc]; omega

set_option maxHeartbeats 400000 in
theorem checked_any (l : List UInt8) (w : World) (hn : l.length ≤ 100000000) :
    Calls Tryz.prog 96 #[.string ⟨l.toArray⟩] w fun e w' => e = .returned (.string ⟨(withChk l).toArray⟩) ∧ Below w.heap.size w w' := by
  have hconv := conv2
  go_enter Tryz.func96, Tryz.ntmps96
  go_wp2
  go_loop [3, 4] (fun n i => ∃ (k c : Nat), k ≤ l.length ∧ i = .int .i64 k ∧ n = .int .i64 c ∧ c < 65536 ∧ Hid (c = chk (l.take k))) (fun _ i => l.length - (intOf i).toNat)
  case atStart => exact ⟨0, 7, Nat.zero_le _, rfl, rfl, by omega, rfl⟩
  case round =>
    obtain ⟨k, c, hk, rfl, rfl, hc, hv⟩ := hrel
    by_cases hlt : k < l.length
    · have HT := hid (chkInt l k hlt)
      have hb : (l[k].toNat : Int) < 256 := by have := l[k].toNat_lt; omega
      have hb0 : (0 : Int) ≤ (l[k].toNat : Int) := by omega
      go_wp2
      go_round
      case rel => exact ⟨k + 1, (c * 31 + l[k].toNat) % 65536, by omega, by go_num, congrArg _ (chkStep c l[k].toNat hc l[k].toNat_lt), Nat.mod_lt _ (by omega), by show _ = _; rw [take_snoc l k hlt, chk_snoc, ← hv.out]⟩
      case measure => simp [intOf]; omega
    · go_wp2
      go_ret
      have e : k = l.length := by omega
      subst e
      refine ⟨ret_str ?_, (Below.refl _ _).alloc (Nat.le_refl _) _⟩
      have hv := hv.out
      rw [List.take_length] at hv
      subst hv
      rw [ByteArray.data_append, Array.toList_append]
      show l ++ _ = withChk l
      unfold withChk
      rfl

end Go.Proofs.YtolififimldmlaaGreat

set_option linter.unusedVariables false
set_option linter.unusedSimpArgs false
namespace Go.Proofs.YtolififimldmlaaGreat
open Go.RowKit
attribute [local go_sem ↓] Go.wp_at_zero Go.wp_at_succ

theorem ret_se {a b : ByteArray} {x y : Int} (h : a.data.toList = b.data.toList) (hx : x = y) : Ending.returned (.tuple #[.string a, .int .i64 x]) = .returned (.tuple #[.string b, .int .i64 y]) := by rw [str_val h, hx]

theorem checked_at (s : ByteArray) (l : List UInt8) (w : World) (hn : l.length ≤ 100000000) (hs : s = ⟨l.toArray⟩) :
    Calls Tryz.prog 96 #[.string s] w fun e w' => e = .returned (.string ⟨(withChk l).toArray⟩) ∧ Below w.heap.size w w' := by
  subst hs; exact checked_any l w hn
theorem bytes_ext {a : ByteArray} {l : List UInt8} (h : a.data.toList = l) : a = ⟨l.toArray⟩ := by subst h; rfl
theorem no_both (k : Int) : ¬ (hasB k 49 = true ∧ hasB k 110 = true) := by
  unfold hasB memB fieldStr
  repeat' split
  all_goals decide

set_option maxRecDepth 100000 in
set_option maxHeartbeats 2000000 in
theorem refPack_any (f : Fr) (a : Option Addr) (cap : Nat) (w : World) (hl : LinesAt w a f.lines) (hn : f.lines.length ≤ 100000000) (hcap : f.lines.length ≤ cap) :
    Calls Tryz.prog 50 #[f.val a cap] w fun e w' => e = .returned (.tuple #[.string ⟨(packS f).toArray⟩, .int .i64 (packE f)]) ∧ Below w.heap.size w w' := by
  have HL := hid hl
  have HIF := hid (fun w1 (h : Below w.heap.size w w1) => isFrame_any f a cap w1 (HL.out.below h) hn hcap)
  clear hl
  cases hok : f.ok
  · have HE : Hid (packS f = [] ∧ packE f = 3) := by show _ ∧ _; simp [packS, packE, hok]
    have HO := hid hok
    clear hok
    unfold Fr.val sla at HIF ⊢
    go_enter Tryz.func50, Tryz.ntmps50
    go_wp2_with fail
    refine (HIF.out _ ((Below.refl _ _).alloc (Nat.le_refl _) _)).mono ?_
    rintro e w1 ⟨rfl, hb1⟩
    rw [HO.out]
    go_wp2
    go_ret2
    exact ⟨by rw [HE.out.1, HE.out.2]; rfl, ((Below.refl _ _).alloc (Nat.le_refl _) _).trans (hb1.mono (by simp))⟩
  · have HE : Hid (packS f = withChk f.body ∧ packE f = 0) := by show _ ∧ _; simp [packS, packE, hok, Fr.bytes]
    have HO := hid hok
    have HBL := Fr.body_len hok
    obtain ⟨p1, p2, p3, p4, p5, p6⟩ := Fr.ok_parts hok
    have P3 := hid p3
    have P5 := hid p5
    have HBD : Hid (f.body = f.head ++ (if hasB f.kind 49 then lineBytes f.line else []) ++ (if hasB f.kind 110 then linesBytes f.lines else [])) := rfl
    clear hok p3 p4 p5 p6
    have hconv := conv6
    obtain ⟨kind, frm, view, place, agreed, last, ⟨c, t, s⟩, ls⟩ := f
    unfold Fr.val sla at HIF ⊢
    dsimp only at *
    go_enter Tryz.func50, Tryz.ntmps50
    go_wp2_with fail
    refine (HIF.out _ ((Below.refl _ _).alloc (Nat.le_refl _) _)).mono ?_
    rintro e w1 ⟨rfl, hb1⟩
    rw [HO.out]
    have hz1 : w.heap.size < w1.heap.size := by have := hb1.size; simp at this; omega
    have HW1 : Hid (Below w.heap.size w w1) := ((Below.refl _ w).alloc (Nat.le_refl _) _).trans (hb1.mono (by simp))
    obtain ⟨q1, q2⟩ := bcell hb1
    clear hb1 q2
    go_wp2_with fail
    refine (fields_any kind _ p1 p2).mono ?_
    rintro e w2 ⟨rfl, hb2⟩
    obtain ⟨r1, r2⟩ := bcell hb2
    simp only [World.size_alloc] at r1
    have hz2 : w.heap.size < w2.heap.size := by have := hb2.size; simp at this; omega
    have HW2 : Hid (Below w.heap.size w w2) := (HW1.out.alloc (by have := HW1.out.size; omega) _).trans (hb2.mono (by have := HW1.out.size; simp; omega))
    clear hb2 r2
    go_wp2_with fail
    refine (has_k kind 49 _ rfl _).mono ?_
    rintro e _ ⟨rfl, rfl⟩
    go_wp2_with fail
    refine (has_k kind 110 _ rfl _).mono ?_
    rintro e _ ⟨rfl, rfl⟩
    have HK : Hid (UInt8.ofNat kind.toNat = byteOf kind) := by
      show _ = _
      unfold byteOf; rw [Int.emod_eq_of_lt (by omega) (by omega)]
    cases h49 : hasB kind 49
    · cases h110 : hasB kind 110
      · rw [h49, h110] at HBD
        clear h49 h110
        go_wp2_with fail
        refine (checked_at _ _ _ (Nat.le_trans HBL (by omega)) ?_).mono ?_
        · rw [HBD.out, HK.out]; rfl
        rintro e w3 ⟨rfl, hb3⟩
        go_wp2
        go_ret2
        exact ⟨by rw [HE.out.1, HE.out.2]; rfl, HW2.out.trans (hb3.mono HW2.out.size)⟩
      · have hls := P5.out h110
        rw [h49, h110] at HBD
        clear h49 h110
        obtain ⟨n20, hlo⟩ := linesOk_all hls
        have hmb := manyBytes_len ls hlo
        have HLO := hid hlo
        have hlb : (linesBytes ls).length ≤ 221 := by unfold linesBytes; rw [List.length_cons]; omega
        clear hlo hls hmb
        go_wp2_with fail
        refine (linesText_any a cap ls _ (HL.out.below HW2.out) hn (fun l hl => Ln.ok_len (HLO.out l hl))).mono ?_
        rintro e w3 ⟨rfl, hb3⟩
        have HW3 := hid (HW2.out.trans (hb3.mono HW2.out.size))
        clear hb3
        go_wp2_with fail
        refine (checked_at _ _ _ (Nat.le_trans HBL (by omega)) ?_).mono ?_
        · rw [HBD.out, HK.out]; exact bytes_ext (by rw [ByteArray.data_append]; simp [Fr.head, byteOf])
        rintro e w4 ⟨rfl, hb4⟩
        go_wp2
        go_ret2
        exact ⟨by rw [HE.out.1, HE.out.2]; rfl, HW3.out.trans (hb4.mono HW3.out.size)⟩
    · have hlk := Ln.ok_len (P3.out h49)
      cases h110 : hasB kind 110
      · rw [h49, h110] at HBD
        clear h49 h110
        dsimp only at hlk
        have hlb : (lineBytes ⟨c, t, s⟩).length ≤ 11 := by rw [lineBytes_len]; dsimp only; omega
        go_wp2_with fail
        refine (lineText_any ⟨c, t, s⟩ _ (by dsimp only; omega)).mono ?_
        rintro e w3 ⟨rfl, hb3⟩
        have HW3 := hid (HW2.out.trans (hb3.mono HW2.out.size))
        clear hb3
        go_wp2_with fail
        refine (checked_at _ _ _ (Nat.le_trans HBL (by omega)) ?_).mono ?_
        · rw [HBD.out, HK.out]; exact bytes_ext (by rw [ByteArray.data_append]; simp [Fr.head, byteOf])
        rintro e w4 ⟨rfl, hb4⟩
        go_wp2
        go_ret2
        exact ⟨by rw [HE.out.1, HE.out.2]; rfl, HW3.out.trans (hb4.mono HW3.out.size)⟩
      · exact absurd ⟨h49, h110⟩ (no_both kind)

end Go.Proofs.YtolififimldmlaaGreat

set_option linter.unusedVariables false
set_option linter.unusedSimpArgs false
namespace Go.Proofs.YtolififimldmlaaGreat
open Go.RowKit
attribute [local go_sem ↓] Go.wp_at_zero Go.wp_at_succ

theorem tl_no (b : List UInt8) (h : takeLine b = none) : tlLine b = Ln.zero ∧ tlRest b = [] ∧ tlOk b = false := by simp [tlLine, tlRest, tlOk, h]
theorem tl_yes (b : List UInt8) (h3 : 3 ≤ b.length) (h : 3 + (b.getD 2 0).toNat ≤ b.length) :
    tlLine b = ⟨(b.getD 0 0).toNat, (b.getD 1 0).toNat, (b.drop 3).take (b.getD 2 0).toNat⟩ ∧ tlRest b = b.drop (3 + (b.getD 2 0).toNat) ∧ tlOk b = true := by
  have : takeLine b = some (⟨(b.getD 0 0).toNat, (b.getD 1 0).toNat, (b.drop 3).take (b.getD 2 0).toNat⟩, b.drop (3 + (b.getD 2 0).toNat)) := by
    unfold takeLine; rw [if_neg (by omega), if_neg (by omega)]
  simp [tlLine, tlRest, tlOk, this]

theorem extr (b : List UInt8) (i j : Nat) : (⟨b.toArray⟩ : ByteArray).extract i j = ⟨((b.drop i).take (j - i)).toArray⟩ := by
  apply ByteArray.ext
  rw [ByteArray.data_extract]
  simp [List.extract]

set_option maxHeartbeats 1000000 in
theorem lineAt_any (b : List UInt8) (w : World) (hn : b.length ≤ 100000000) :
    Calls Tryz.prog 145 #[.string ⟨b.toArray⟩] w fun e w' => e = .returned (.tuple #[.agg #[.int .i64 (tlLine b).c, .int .i64 (tlLine b).t, .string ⟨(tlLine b).s.toArray⟩], .string ⟨(tlRest b).toArray⟩, .bool (tlOk b)]) ∧ Below w.heap.size w w' := by
  rcases Nat.lt_or_ge b.length 3 with h3 | h3
  · obtain ⟨e1, e2, e3⟩ := tl_no b (by unfold takeLine; rw [if_pos h3])
    rw [e1, e2, e3]
    clear e1 e2 e3
    go_enter Tryz.func145, Tryz.ntmps145
    go_wp2
    exact bodyPost_ret (v := .tuple #[.agg #[.int .i64 0, .int .i64 0, .string ⟨#[]⟩], .string ⟨#[]⟩, .bool false]) (by simp [results, Tryz.results145, go_sem]) rfl ⟨rfl, (Below.refl _ _).alloc (Nat.le_refl _) _⟩
  · have i0 : ∀ h, (⟨b.toArray⟩ : ByteArray)[0]'h = b.getD 0 0 := fun h => by rw [getD_at b 0 0 (by omega)]; rfl
    have i1 : ∀ h, (⟨b.toArray⟩ : ByteArray)[1]'h = b.getD 1 0 := fun h => by rw [getD_at b 1 0 (by omega)]; rfl
    have i2 : ∀ h, (⟨b.toArray⟩ : ByteArray)[2]'h = b.getD 2 0 := fun h => by rw [getD_at b 2 0 (by omega)]; rfl
    have HY := hid (tl_yes b h3)
    have HN : Hid (b.length < 3 + (b.getD 2 0).toNat → takeLine b = none) := fun h => by unfold takeLine; rw [if_neg (by omega), if_pos h]
    generalize b.getD 0 0 = x at i0 HY
    generalize b.getD 1 0 = y at i1 HY
    generalize b.getD 2 0 = z at i2 HY HN
    have hx : x.toNat < 256 := x.toNat_lt
    have hy : y.toNat < 256 := y.toNat_lt
    have hz : z.toNat < 256 := z.toNat_lt
    rcases Nat.lt_or_ge b.length (3 + z.toNat) with hb | hb
    · obtain ⟨e1, e2, e3⟩ := tl_no b (HN.out hb)
      rw [e1, e2, e3]
      clear e1 e2 e3
      go_enter Tryz.func145, Tryz.ntmps145
      go_wp2
      exact bodyPost_ret (v := .tuple #[.agg #[.int .i64 0, .int .i64 0, .string ⟨#[]⟩], .string ⟨#[]⟩, .bool false]) (by simp [results, Tryz.results145, go_sem]) rfl ⟨rfl, (Below.refl _ _).alloc (Nat.le_refl _) _⟩
    · obtain ⟨e1, e2, e3⟩ := HY.out hb
      rw [e1, e2, e3]
      clear e1 e2 e3
      go_enter Tryz.func145, Tryz.ntmps145
      go_wp2
      go_region
      all_goals go_wp2
      refine bodyPost_ret (v := .tuple #[.agg #[.int .i64 x.toNat, .int .i64 y.toNat, .string ((⟨b.toArray⟩ : ByteArray).extract 3 (3 + z.toNat))], .string ((⟨b.toArray⟩ : ByteArray).extract (3 + z.toNat) b.length), .bool true]) (by simp [results, Tryz.results145, go_sem]) rfl ⟨?_, ((Below.refl _ _).alloc (Nat.le_refl _) _).drew⟩
      rw [extr, extr, show 3 + z.toNat - 3 = z.toNat from by omega, List.take_of_length_le (l := b.drop (3 + z.toNat)) (by rw [List.length_drop]; omega)]

end Go.Proofs.YtolififimldmlaaGreat

set_option linter.unusedVariables false
set_option linter.unusedSimpArgs false
namespace Go.Proofs.YtolififimldmlaaGreat
open Go.RowKit
attribute [local go_sem ↓] Go.wp_at_zero Go.wp_at_succ

/-- A slice value: over the head of a block, or nil. -/
def sl (b : Option Nat) (n c : Nat) : Value := .slice (b.map fun g => ⟨g, 0, none⟩) n c

/-- What a hold in memory is: its block, its three lists, its mark. -/
structure HG where
  p : Nat
  b : Option Nat
  bn : Nat
  bc : Nat
  l : Option Nat
  ln : Nat
  lc : Nat
  o : Option Nat
  on : Nat
  oc : Nat
  q : Nat → Nat
  m : Nat

structure HoldIs (w : World) (h : HG) : Prop where
  c0 : w.cell? ⟨h.p, 0, none⟩ = some (sl h.b h.bn h.bc)
  c1 : w.cell? ⟨h.p, 1, none⟩ = some (sl h.l h.ln h.lc)
  c2 : w.cell? ⟨h.p, 2, none⟩ = some (sl h.o h.on h.oc)
  c3 : w.cell? ⟨h.p, 3, none⟩ = some (.int .i64 h.m)
  bs : ∀ j, j < h.bn → ∃ g, h.b = some g ∧ w.cell? ⟨g, j, none⟩ = some (.int .u8 (sg h.m j))
  ls : ∀ j, j < h.ln → ∃ g, h.l = some g ∧ w.cell? ⟨g, j * 3, none⟩ = some (.int .i64 77) ∧ w.cell? ⟨g, j * 3 + 1, none⟩ = some (.int .i64 h.m) ∧ w.cell? ⟨g, j * 3 + 2, none⟩ = some (.string ⟨#[]⟩)
  os : ∀ j, j < h.on → ∃ g c, h.o = some g ∧ w.cell? ⟨g, j * 3, none⟩ = some (.bool false) ∧ w.cell? ⟨g, j * 3 + 1, none⟩ = some (.int .i64 h.m) ∧ w.cell? ⟨g, j * 3 + 2, none⟩ = some (.slice (some ⟨h.q j, 0, none⟩) 1 c) ∧
    w.cell? ⟨h.q j, 0, none⟩ = some (.int .u8 ((h.m : Int) % 256))

set_option maxRecDepth 100000 in
set_option maxHeartbeats 1000000 in
theorem marked_any (h : HG) (w : World) (hh : HoldIs w h) (hm : h.m ≤ 100000000) (h1 : h.bn ≤ 100000000) (h2 : h.ln ≤ 100000000) (h3 : h.on ≤ 100000000) :
    Calls Tryz.prog 67 #[.pointer (some ⟨h.p, 0, none⟩)] w fun e w' => e = .returned (.bool true) ∧ Below w.heap.size w w' := by
  obtain ⟨p, b, bn, bc, l, ln, lc, o, on, oc, qf, m⟩ := h
  obtain ⟨c0, c1, c2, c3, bs, ls, os⟩ := hh
  dsimp only at *
  have hbs : Hid (∀ j, j < bn → ∃ g, b = some g ∧ w.cell? ⟨g, j, none⟩ = some (.int .u8 (sg m j))) := bs
  have hls : Hid (∀ j, j < ln → ∃ g, l = some g ∧ w.cell? ⟨g, j * 3, none⟩ = some (.int .i64 77) ∧ w.cell? ⟨g, j * 3 + 1, none⟩ = some (.int .i64 m) ∧ w.cell? ⟨g, j * 3 + 2, none⟩ = some (.string ⟨#[]⟩)) := ls
  have hos : Hid (∀ j, j < on → ∃ g c, o = some g ∧ w.cell? ⟨g, j * 3, none⟩ = some (.bool false) ∧ w.cell? ⟨g, j * 3 + 1, none⟩ = some (.int .i64 m) ∧ w.cell? ⟨g, j * 3 + 2, none⟩ = some (.slice (some ⟨qf j, 0, none⟩) 1 c) ∧
    w.cell? ⟨qf j, 0, none⟩ = some (.int .u8 ((m : Int) % 256))) := os
  clear bs ls os
  unfold sl at c0 c1 c2
  go_enter Tryz.func67, Tryz.ntmps67
  go_wp2
  go_loopw [3, 4] (fun ok i wr => ∃ k : Nat, k ≤ bn ∧ i = .int .i64 k ∧ ok = .bool true ∧ Below w.heap.size w wr) (fun _ i _ => bn - (intOf i).toNat)
  case atStart => exact ⟨0, Nat.zero_le _, rfl, rfl, Below.refl _ _⟩
  case round =>
    obtain ⟨k, hk, rfl, rfl, hb⟩ := hrel
    by_cases hlt : k < bn
    · obtain ⟨g, rfl, hg⟩ := hbs.out k hlt
      have d0 : wr.cell? ⟨p, 0, none⟩ = _ := (hb.cell (World.block_lt_of_cell? w _ c0)).trans c0
      have d3 : wr.cell? ⟨p, 3, none⟩ = _ := (hb.cell (World.block_lt_of_cell? w _ c3)).trans c3
      have dg : wr.cell? ⟨g, k, none⟩ = _ := (hb.cell (World.block_lt_of_cell? w _ hg)).trans hg
      go_wp2
      go_quiet ((go_at_call 112; exact Calls.quiet_of_same (sign_any m k _ hm (by omega))))
      go_wp2
      go_roundw
      case rel => exact ⟨k + 1, by omega, by go_num, by simp, below_drewN hb _⟩
      case measure => simp [intOf]; omega
    · have d0 : wr.cell? ⟨p, 0, none⟩ = _ := (hb.cell (World.block_lt_of_cell? w _ c0)).trans c0
      go_wp2

      go_loopw [3, 5] (fun ok i wq => ∃ k2 : Nat, k2 ≤ ln ∧ i = .int .i64 k2 ∧ ok = .bool true ∧ Below w.heap.size w wq) (fun _ i _ => ln - (intOf i).toNat)
      case atStart => exact ⟨0, Nat.zero_le _, rfl, rfl, hb⟩
      case round =>
        clear hb
        obtain ⟨k2, hk2, rfl, rfl, hb⟩ := hrel
        by_cases hlt2 : k2 < ln
        · obtain ⟨g, rfl, hg0, hg1, hg2⟩ := hls.out k2 hlt2
          have d1 : wr.cell? ⟨p, 1, none⟩ = _ := (hb.cell (World.block_lt_of_cell? w _ c1)).trans c1
          have d3 : wr.cell? ⟨p, 3, none⟩ = _ := (hb.cell (World.block_lt_of_cell? w _ c3)).trans c3
          have dg0 : wr.cell? ⟨g, k2 * 3, none⟩ = _ := (hb.cell (World.block_lt_of_cell? w _ hg0)).trans hg0
          have dg1 : wr.cell? ⟨g, k2 * 3 + 1, none⟩ = _ := (hb.cell (World.block_lt_of_cell? w _ hg1)).trans hg1
          have dg2 : wr.cell? ⟨g, k2 * 3 + 2, none⟩ = _ := (hb.cell (World.block_lt_of_cell? w _ hg2)).trans hg2
          go_wp2
          go_quiet (fail)
          go_wp2
          go_roundw
          case rel => exact ⟨k2 + 1, by omega, by go_num, by simp, below_drewN hb _⟩
          case measure => simp [intOf]; omega
        · have d1 : wr.cell? ⟨p, 1, none⟩ = _ := (hb.cell (World.block_lt_of_cell? w _ c1)).trans c1
          go_wp2

          go_loopw [3, 6] (fun ok i wq => ∃ k3 : Nat, k3 ≤ on ∧ i = .int .i64 k3 ∧ ok = .bool true ∧ Below w.heap.size w wq) (fun _ i _ => on - (intOf i).toNat)
          case atStart => exact ⟨0, Nat.zero_le _, rfl, rfl, hb⟩
          case round =>
            clear hb
            obtain ⟨k3, hk3, rfl, rfl, hb⟩ := hrel
            by_cases hlt3 : k3 < on
            · obtain ⟨g, c, rfl, hg0, hg1, hg2, hg3⟩ := hos.out k3 hlt3
              generalize qf k3 = q at hg2 hg3
              have d2 : wr.cell? ⟨p, 2, none⟩ = _ := (hb.cell (World.block_lt_of_cell? w _ c2)).trans c2
              have d3 : wr.cell? ⟨p, 3, none⟩ = _ := (hb.cell (World.block_lt_of_cell? w _ c3)).trans c3
              have dg0 : wr.cell? ⟨g, k3 * 3, none⟩ = _ := (hb.cell (World.block_lt_of_cell? w _ hg0)).trans hg0
              have dg1 : wr.cell? ⟨g, k3 * 3 + 1, none⟩ = _ := (hb.cell (World.block_lt_of_cell? w _ hg1)).trans hg1
              have dg2 : wr.cell? ⟨g, k3 * 3 + 2, none⟩ = _ := (hb.cell (World.block_lt_of_cell? w _ hg2)).trans hg2
              have dq : wr.cell? ⟨q, 0, none⟩ = _ := (hb.cell (World.block_lt_of_cell? w _ hg3)).trans hg3
              have e3 : p < wr.heap.size := World.block_lt_of_cell? wr _ d3
              have eq : q < wr.heap.size := World.block_lt_of_cell? wr _ dq
              have hconv := fun (w' : World) (q c : Nat) (x : Int) (h : w'.cell? ⟨q, 0, none⟩ = some (.int .u8 x)) => conv1 q c x w' h
              go_wp2
              go_region_held (fun w' => w'.cell? ⟨p, 3, none⟩ = some (.int .i64 m) ∧ w'.cell? ⟨q, 0, none⟩ = some (.int .u8 ((m : Int) % 256)) ∧ w'.cell? ⟨wr.heap.size, 0, none⟩ = some (.bool false) ∧ w'.cell? ⟨wr.heap.size, 1, none⟩ = some (.int .i64 m) ∧ w'.cell? ⟨wr.heap.size, 2, none⟩ = some (.slice (some ⟨q, 0, none⟩) 1 c)) (go_keep) (fail)
              go_wp2
              go_roundw
              case rel => exact ⟨k3 + 1, by omega, by go_num, by rw [IntKind.wrap_u8, beq_self_eq_true], ((hb.alloc hb.size _).alloc (by simp; have := hb.size; omega) _).drew⟩
              case measure => simp [intOf]; omega
            · have d2 : wr.cell? ⟨p, 2, none⟩ = _ := (hb.cell (World.block_lt_of_cell? w _ c2)).trans c2
              go_wp2
              go_ret
              exact ⟨rfl, hb⟩

end Go.Proofs.YtolififimldmlaaGreat

set_option linter.unusedVariables false
set_option linter.unusedSimpArgs false
namespace Go.Proofs.YtolififimldmlaaGreat
open Go.RowKit
attribute [local go_sem ↓] Go.wp_at_zero Go.wp_at_succ

theorem HoldIs.below {w w' : World} {h : HG} (hh : HoldIs w h) (hb : Below w.heap.size w w') : HoldIs w' h := by
  have hc : ∀ {a : Addr} {v : Value}, w.cell? a = some v → w'.cell? a = some v := fun {a v} e => (hb.cell (World.block_lt_of_cell? w _ e)).trans e
  refine ⟨hc hh.c0, hc hh.c1, hc hh.c2, hc hh.c3, fun j hj => ?_, fun j hj => ?_, fun j hj => ?_⟩
  · obtain ⟨g, e, a⟩ := hh.bs j hj; exact ⟨g, e, hc a⟩
  · obtain ⟨g, e, a, b, c⟩ := hh.ls j hj; exact ⟨g, e, hc a, hc b, hc c⟩
  · obtain ⟨g, cc, e, a, b, c, d⟩ := hh.os j hj; exact ⟨g, cc, e, hc a, hc b, hc c, hc d⟩

set_option maxHeartbeats 400000 in
theorem looks_any (W n cap : Nat) (gh : Option Nat) (H : Nat → HG) (w : World) (hn : n ≤ 100000000)
    (hc : w.cell? ⟨W, 1, none⟩ = some (sl gh n cap))
    (hp : ∀ j, j < n → ∃ g, gh = some g ∧ w.cell? ⟨g, j, none⟩ = some (.pointer (some ⟨(H j).p, 0, none⟩)))
    (hh : ∀ j, j < n → HoldIs w (H j)) (hs : ∀ j, j < n → (H j).m ≤ 100000000 ∧ (H j).bn ≤ 100000000 ∧ (H j).ln ≤ 100000000 ∧ (H j).on ≤ 100000000) :
    Calls Tryz.prog 31 #[.pointer (some ⟨W, 0, none⟩)] w fun e w' => e = .returned (.bool true) ∧ Below w.heap.size w w' := by
  have hp' : Hid (∀ j, j < n → ∃ g, gh = some g ∧ w.cell? ⟨g, j, none⟩ = some (.pointer (some ⟨(H j).p, 0, none⟩))) := hp
  have hh' : Hid (∀ j, j < n → HoldIs w (H j)) := hh
  have hs' : Hid (∀ j, j < n → (H j).m ≤ 100000000 ∧ (H j).bn ≤ 100000000 ∧ (H j).ln ≤ 100000000 ∧ (H j).on ≤ 100000000) := hs
  clear hp hh hs
  unfold sl at hc
  go_enter Tryz.func31, Tryz.ntmps31
  go_wp2
  go_loopw [3] (fun i wr => ∃ k : Nat, k ≤ n ∧ i = .int .i64 k ∧ Below w.heap.size w wr) (fun i _ => n - (intOf i).toNat)
  case atStart => exact ⟨0, Nat.zero_le _, rfl, Below.refl _ _⟩
  case round =>
    obtain ⟨k, hk, rfl, hb⟩ := hrel
    have d : wr.cell? ⟨W, 1, none⟩ = _ := (hb.cell (World.block_lt_of_cell? w _ hc)).trans hc
    by_cases hlt : k < n
    · obtain ⟨g, rfl, hg⟩ := hp'.out k hlt
      have dg : wr.cell? ⟨g, k, none⟩ = _ := (hb.cell (World.block_lt_of_cell? w _ hg)).trans hg
      obtain ⟨s1, s2, s3, s4⟩ := hs'.out k hlt
      have hk' : Hid (HoldIs wr (H k)) := (hh'.out k hlt).below (by exact ⟨hb.os, hb.tape, hb.output, hb.size, hb.block⟩)
      go_wp2_with fail
      refine (marked_any (H k) _ hk'.out s1 s2 s3 s4).mono ?_
      rintro e w1 ⟨rfl, hb1⟩
      go_wp2
      go_roundw
      case rel => exact ⟨k + 1, by omega, by go_num, hb.trans (hb1.mono hb.size)⟩
      case measure => simp [intOf]; omega
    · go_wp2
      go_ret
      exact ⟨rfl, hb⟩

end Go.Proofs.YtolififimldmlaaGreat
