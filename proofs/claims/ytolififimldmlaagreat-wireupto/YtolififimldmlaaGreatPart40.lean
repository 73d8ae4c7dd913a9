import Derived.Test.YtolififimldmlaaGreatPart39
set_option linter.unusedVariables false
set_option linter.unusedSimpArgs false
namespace Go.Proofs.YtolififimldmlaaGreat
open Go.RowKit
attribute [local go_sem ↓] Go.wp_at_zero Go.wp_at_succ

set_option maxRecDepth 100000 in
set_option maxHeartbeats 4000000 in
theorem len64_go (n : Nat) (hn : n = 2 ∨ n = 4) (w : World) : Calls Tryz.prog 227 #[.int .u64 n] w fun e w' => (∃ x : Int, e = .returned (.int .i64 x)) ∧ w' = w := by
  rcases hn with rfl | rfl
  all_goals
    go_enter Tryz.func227, Tryz.ntmps227
    go_wp2
    go_ret
    exact ⟨⟨_, rfl⟩, rfl⟩

set_option maxRecDepth 100000 in
set_option maxHeartbeats 4000000 in
theorem len_go (n : Nat) (hn : n = 2 ∨ n = 4) (w : World) : Calls Tryz.prog 209 #[.int .u64 n] w fun e w' => (∃ x : Int, e = .returned (.int .i64 x)) ∧ w' = w := by
  have HL := hid (len64_go n hn w)
  clear hn
  go_enter Tryz.func209, Tryz.ntmps209
  go_wp2_with fail
  refine HL.out.mono ?_
  rintro e w1 ⟨⟨x, rfl⟩, hw⟩
  rw [hw]
  clear hw w1
  go_wp2
  go_ret
  exact ⟨⟨_, rfl⟩, rfl⟩

set_option maxRecDepth 100000 in
set_option maxHeartbeats 4000000 in
theorem pdq_go (g c n : Nat) (x : Int) (l : List Int) (w0 w : World) (h : OwnInts w0 w (some g) c l) (hn : l.length = n) (h1 : 1 ≤ n) (h12 : n ≤ 12) (hb : Below w0.heap.size w0 w) :
    Calls Tryz.prog 208 #[.slice (some ⟨g, 0, none⟩) n c, .int .i64 0, .int .i64 n, .int .i64 x] w fun e w' => e = .returned (.tuple #[]) ∧ OwnInts w0 w' (some g) c (sinks (n - 1) l 1) ∧ Below w0.heap.size w0 w' := by
  have HI := hid (insSort_go g c n l w0 w h hn h1 h12 hb)
  clear h hb hn
  have b1 : (n : Int) ≤ 12 := by omega
  go_enter Tryz.func208, Tryz.ntmps208
  go_wp2
  go_loopw [1, 2] (fun av bv wr => av = .int .i64 0 ∧ bv = .int .i64 n ∧ w = wr) (fun _ _ _ => 0)
  case atStart => exact ⟨rfl, rfl, rfl⟩
  case round =>
    obtain ⟨rfl, rfl, rfl⟩ := hrel
    go_wp2_with fail
    refine HI.out.mono ?_
    rintro e w1 ⟨rfl, h1, h2⟩
    have H1 := hid h1
    have H2 := hid h2
    clear h1 h2 HI
    go_wp2
    refine bodyPost_ret (v := .tuple #[]) ?_ rfl ⟨rfl, H1.out, H2.out⟩
    simp [results, Tryz.results208, go_sem]

set_option maxRecDepth 100000 in
set_option maxHeartbeats 4000000 in
theorem sort_go (g c n : Nat) (l : List Int) (w0 w : World) (h : OwnInts w0 w (some g) c l) (hn : l.length = n) (h24 : n = 2 ∨ n = 4) (hb : Below w0.heap.size w0 w) :
    Calls Tryz.prog 204 #[.slice (some ⟨g, 0, none⟩) n c] w fun e w' => e = .returned (.tuple #[]) ∧ OwnInts w0 w' (some g) c (sinks (n - 1) l 1) ∧ Below w0.heap.size w0 w' := by
  have HP : Hid (∀ x : Int, Calls Tryz.prog 208 #[.slice (some ⟨g, 0, none⟩) n c, .int .i64 0, .int .i64 n, .int .i64 x] w fun e w' => e = .returned (.tuple #[]) ∧ OwnInts w0 w' (some g) c (sinks (n - 1) l 1) ∧ Below w0.heap.size w0 w') := fun x => pdq_go g c n x l w0 w h hn (by omega) (by omega) hb
  have HL := hid (len_go n h24 w)
  have wn : IntKind.u64.wrap (n : Int) = (n : Int) := by rcases h24 with rfl | rfl <;> decide
  clear h hb hn h24
  go_enter Tryz.func204, Tryz.ntmps204
  go_wp2_with fail
  refine HL.out.mono ?_
  rintro e w1 ⟨⟨x, rfl⟩, hw⟩
  rw [hw]
  clear hw w1
  go_wp2_with fail
  refine (HP.out x).mono ?_
  rintro e w1 ⟨rfl, h1, h2⟩
  have H1 := hid h1
  have H2 := hid h2
  clear h1 h2 HP HL
  go_wp2
  go_end0
  exact ⟨rfl, H1.out, H2.out⟩

end Go.Proofs.YtolififimldmlaaGreat

set_option linter.unusedVariables false
set_option linter.unusedSimpArgs false
namespace Go.Proofs.YtolififimldmlaaGreat
open Go.RowKit
attribute [local go_sem ↓] Go.wp_at_zero Go.wp_at_succ

theorem othersL_len1 {me : Int} : ∀ n : Nat, 0 ≤ me → (othersL me n).length = if me < n then n - 1 else n := by
  intro n h0
  induction n with
  | zero => simp [othersL]
  | succ n ih =>
    unfold othersL
    rw [List.length_append, ih]
    by_cases e : (n : Int) = me
    · rw [if_pos e, if_neg (by omega), if_pos (by omega)]; simp
    · rw [if_neg e]
      by_cases h : me < n
      · rw [if_pos h, if_pos (by omega)]; simp; omega
      · rw [if_neg h, if_neg (by omega)]; simp

theorem holds_cell {v : PV} {w : World} {B : Nat} (h : v.At w B) (t : Int) (h0 : 0 ≤ t) (h5 : t < 5) : w.cell? ⟨B, 10 + t.toNat, none⟩ = some (.int .i64 (v.hs t.toNat)) := by
  have : t = 0 ∨ t = 1 ∨ t = 2 ∨ t = 3 ∨ t = 4 := by omega
  rcases this with rfl | rfl | rfl | rfl | rfl
  · exact cell_of_heap h.blk 10
  · exact cell_of_heap h.blk 11
  · exact cell_of_heap h.blk 12
  · exact cell_of_heap h.blk 13
  · exact cell_of_heap h.blk 14

/-- The greatest place that few others hold. -/
def heldFew (hs : Nat → Int) (me : Int) (n : Nat) : Int := (sinks (n - 2) ((othersL me n).map fun t => hs t.toNat) 1).getD (n - 1 - n / 2) 0

theorem sinks_len (f : Nat) : ∀ l i, (sinks f l i).length = l.length := by
  induction f with
  | zero => intro l i; rfl
  | succ f ih => intro l i; unfold sinks; rw [ih, sink_len]

set_option maxRecDepth 100000 in
set_option maxHeartbeats 8000000 in
theorem heldByFewV (v : PV) (B : Nat) (w : World) (h : v.At w B) (n : Nat) (hkn : v.kp = n) (h35 : n = 3 ∨ n = 5) (hme : 0 ≤ v.me ∧ v.me < n) :
    Calls Tryz.prog 195 #[.pointer (some ⟨B, 0, none⟩)] w fun e w' => e = .returned (.int .i64 (heldFew v.hs v.me n)) ∧ Below w.heap.size w w' := by
  have OV := hid (othersV v B w h n hkn (by omega))
  have FV : Hid (∀ z, Below w.heap.size w z → Calls Tryz.prog 199 #[.pointer (some ⟨B, 0, none⟩)] z fun e w' => e = .returned (.int .i64 (n / 2 : Nat)) ∧ Below z.heap.size z w') := fun z hz => by
    have := fewV v B z (h.below hz) (by omega)
    rw [hkn] at this
    exact this
  have hlen := othersL_len1 (me := v.me) n hme.1
  rw [if_pos hme.2] at hlen
  have HC : Hid (∀ z, Below w.heap.size w z → ∀ t ∈ othersL v.me n, 0 ≤ t ∧ t < 5 ∧ z.cell? ⟨B, 10 + t.toNat, none⟩ = some (.int .i64 (v.hs t.toNat))) := fun z hz t ht => by
    have := othersL_mem ht
    exact ⟨this.1, by omega, holds_cell (h.below hz) t this.1 (by omega)⟩
  have HFW : Hid (heldFew v.hs v.me n = (sinks (n - 2) ((othersL v.me n).map fun t => v.hs t.toNat) 1).getD (n - 1 - n / 2) 0) := rfl
  obtain ⟨ii, hii, hii0, hii1, hii2⟩ := info_parts Tryz.info3
  clear h hkn hme
  generalize heldFew v.hs v.me n = HF at *
  generalize othersL v.me n = L at *
  have HLN := hid hlen
  clear hlen
  have HLE : Hid (L.length ≤ 4) := by have := HLN.out; show _ ≤ _; omega
  go_enter Tryz.func195, Tryz.ntmps195
  go_wp2_with fail
  refine OV.out.mono ?_
  rintro e X0 ⟨gi, ci, rfl, hoi, hb0⟩
  have HOI := hid hoi
  have HB0 := hid hb0
  clear hoi hb0 OV
  unfold sl
  go_wp2
  go_loopw [3, 9] (fun r i wr => ∃ (k : Nat) (g : Option Nat) (c : Nat), k ≤ L.length ∧ i = .int .i64 k ∧ r = .slice (g.map fun q => ⟨q, 0, none⟩) k c ∧ Hid (OwnInts X0 wr g c ((L.take k).map fun t => v.hs t.toNat)) ∧ Hid (Below X0.heap.size X0 wr)) (fun _ i _ => L.length - (intOf i).toNat)
  case atStart => exact ⟨0, none, 0, Nat.zero_le _, rfl, rfl, OwnInts.none_ _ _, Below.refl _ _⟩
  case round =>
    obtain ⟨k, g, c, hk, rfl, rfl, HO, HB⟩ := hrel
    by_cases hlt : k < L.length
    · have b0 : (0 : Int) ≤ (k : Int) := by omega
      have b1 : (k : Int) < (L.length : Int) := by omega
      obtain ⟨gg, he, hc⟩ := (HOI.out.below HB.out).at_ k hlt
      subst he
      simp only [Option.map_some]
      have hkl : ((L.take k).map fun t => v.hs t.toNat).length = k := by rw [List.length_map, List.length_take]; omega
      have htk : Hid (L.take (k + 1) = L.take k ++ [L[k]]) := by show _ = _; rw [List.take_add_one, List.getElem?_eq_getElem hlt]; rfl
      obtain ⟨t0, t5, tc⟩ := HC.out wr (HB0.out.trans (HB.out.mono HB0.out.size)) L[k] (List.getElem_mem hlt)
      generalize L[k] = t at *
      have HOW : Hid (OwnRow (wr.alloc (.cells #[.int .i64 (v.hs t.toNat)] 3)) 3 1 g k c) := by have := HO.out.own.alloc (.cells #[.int .i64 (v.hs t.toNat)] 3); rw [hkl] at this; exact this
      have HKL := hid hkl
      have h4 : k ≤ 4 := by have := HLE.out; omega
      clear hkl
      go_wp2_with (at_builtin; refine wpList_app _ rfl (.tmp 13) (.tmp 20) 221 rfl 3 ii (.int .i64 0) 1 8 Tryz.underlying221 hii hii0 hii1 hii2 rfl g k c (by rfl) HOW.out ⟨wr.heap.size, 0, none⟩ 1 1 [.int .i64 (v.hs t.toNat)] rfl rfl ?c1 ?c2 (by omega) (by omega) (by omega) ?_)
      case c1 => exact World.news_of_block (heap_alloc_new wr _)
      case c2 => intro u hu; simp at hu; subst hu; rfl
      intro g2 c2 w3 Q
      have HA := hid (HO.out.app HB.out HKL.out Q)
      clear Q
      go_wp2
      go_roundw
      case rel => exact ⟨k + 1, some g2, c2, by omega, by go_num, rfl, by rw [htk.out, List.map_append]; exact HA.out.1, HA.out.2⟩
      case measure => simp [intOf]; omega
    · have hkn : k = L.length := by omega
      subst hkn
      rw [List.take_of_length_le (Nat.le_refl _)] at HO
      have hL24 : L.length = 2 ∨ L.length = 4 := by have := HLN.out; omega
      obtain ⟨g0, rfl⟩ : ∃ g0, g = some g0 := by
        obtain ⟨q, e, _⟩ := HO.out.at_ 0 (by rw [List.length_map]; omega)
        exact ⟨q, e⟩
      have HS := hid (sort_go g0 c L.length (L.map fun t => v.hs t.toNat) X0 wr HO.out (by rw [List.length_map]) hL24 HB.out)
      have HN2 : Hid (L.length - 1 = n - 2) := by have := HLN.out; show _ = _; omega
      have HSL : Hid ((sinks (n - 2) (L.map fun t => v.hs t.toNat) 1).length = L.length) := by show _ = _; rw [sinks_len, List.length_map]
      rw [HN2.out] at HS
      generalize sinks (n - 2) (L.map fun t => v.hs t.toNat) 1 = SS at *
      simp only [Option.map_some]
      go_wp2_with fail
      refine HS.out.mono ?_
      rintro e X1 ⟨rfl, ho, hb⟩
      have HO1 := hid ho
      have HB1 := hid (HB0.out.trans (hb.mono HB0.out.size))
      clear ho hb HS
      go_wp2_with fail
      refine (FV.out _ HB1.out).mono ?_
      rintro e X2 ⟨rfl, hb⟩
      have HB2 := hid (HB1.out.trans (hb.mono HB1.out.size))
      have x1 := (HO1.out.below hb).cell (n - 1 - n / 2) (by have := HSL.out; have := HLN.out; omega)
      rw [← HFW.out] at x1
      clear hb
      have i0 : (0 : Int) ≤ ((n - 1 - n / 2 : Nat) : Int) := by omega
      have i1 : ((n - 1 - n / 2 : Nat) : Int) < (L.length : Int) := by have := HLN.out; omega
      have iw : IntKind.i64.wrap ((L.length : Int) - ((n / 2 : Nat) : Int)) = ((n - 1 - n / 2 : Nat) : Int) := by rw [IntWalk.i64_left, IntWalk.wrap64_in _ (by omega)]; have := HLN.out; omega
      clear HFW HSL HN2 hL24 h35 HLE FV
      generalize n - 1 - n / 2 = ix at *
      generalize n / 2 = f2 at *
      generalize L.length = LL at *
      go_wp2
      go_ret
      exact ⟨rfl, HB2.out⟩

end Go.Proofs.YtolififimldmlaaGreat
