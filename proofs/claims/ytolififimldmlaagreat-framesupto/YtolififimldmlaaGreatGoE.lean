import Derived.Test.YtolififimldmlaaGreatGoD
set_option linter.unusedVariables false
set_option linter.unusedSimpArgs false
namespace Go.Proofs.YtolififimldmlaaGreat
open Go.RowKit
attribute [local go_sem ↓] Go.wp_at_zero Go.wp_at_succ

theorem Grew.own' {w x : World} {b : Option Nat} {g c n : Nat} {l : List UInt8} (h : Grew w x b g c l) (hn : l.length = n) : OwnRow x 5 1 (some g) n c := by subst hn; exact h.own

set_option maxRecDepth 100000 in
set_option maxHeartbeats 1000000 in
theorem appendLine_any (g c : Nat) (l : List UInt8) (x : Ln) (w : World) (hat : BytesAt w (some g) l) (hown : OwnRow w 5 1 (some g) l.length c) (hn : l.length ≤ 100000000) (hx : x.s.length ≤ 100000000) :
    Calls Tryz.prog 70 #[.slice (some ⟨g, 0, none⟩) l.length c, .agg #[.int .i64 x.c, .int .i64 x.t, .string ⟨x.s.toArray⟩]] w fun e w' =>
      ∃ g' c', e = .returned (.slice (some ⟨g', 0, none⟩) (l ++ lineBytes x).length c') ∧ Grew w w' (some g) g' c' (l ++ lineBytes x) := by
  obtain ⟨xc, xt, xs⟩ := x
  dsimp only at *
  obtain ⟨ib, hib, hib0, hib1, hib2⟩ := info_parts Tryz.info5
  have HG := hid (((Grew.refl hat hown).alloc (.cells #[.int .i64 xc, .int .i64 xt, .string ⟨xs.toArray⟩] 27)).alloc (.cells #[.int .u8 (xc % 256), .int .u8 (xt % 256), .int .u8 ((xs.length : Int) % 256)] 5))
  have hsz : w.heap.size ≠ g := by
    rcases hown with ⟨h, _⟩ | ⟨g0, cur, h, hg, _⟩
    · cases h
    · cases h; have := heap_lt hg; omega
  clear hat hown
  go_enter Tryz.func70, Tryz.ntmps70
  go_wp2_with (at_builtin; refine wpList_appS _ rfl (.tmp 5) (.tmp 16) 31 31 rfl 5 ib (.int .u8 0) 1 1 Tryz.underlying31 hib hib0 hib1 hib2 rfl g l.length c (by rfl) HG.out.own _ rfl 3 [.int .u8 (xc % 256), .int .u8 (xt % 256), .int .u8 ((xs.length : Int) % 256)] (Src.ofSlice _ Tryz.underlying31 ⟨w.heap.size + 1, 0, none⟩ 3 3 _ rfl ?c1 ?c2) (by omega) (by omega) ?_)
  case c1 =>
    have := World.news_of_block (heap_alloc_new (w.alloc (.cells #[.int .i64 xc, .int .i64 xt, .string ⟨xs.toArray⟩] 27)) (.cells #[.int .u8 (xc % 256), .int .u8 (xt % 256), .int .u8 ((xs.length : Int) % 256)] 5))
    rw [World.size_alloc] at this
    exact this
  case c2 => intro u hu; simp at hu; rcases hu with rfl | rfl | rfl <;> rfl
  intro g1 c1 w1 P1
  have HG1 := hid (HG.out.app (l2 := [byteOf xc, byteOf xt, byteOf xs.length]) P1 rfl rfl (by simp [u8cells, byteOf_cell]))
  have y2 : w1.cell? ⟨w.heap.size, 2, none⟩ = some (.string ⟨xs.toArray⟩) := by
    rw [P1.keep _ _ (by simp; omega) (fun e => hsz (by have := Option.some.inj e.1; omega))]
    rw [World.cell?_alloc_past _ _ _ (by simp)]
    exact World.cell?_alloc_new _ _ _ _
  clear P1
  go_wp2_with (at_builtin; refine wpList_appS _ rfl (.tmp 18) (.tmp 20) 31 9 rfl 5 ib (.int .u8 0) 1 1 Tryz.underlying31 hib hib0 hib1 hib2 rfl g1 (l.length + 3) c1 (by rfl) (HG1.out.own' (by simp)) _ rfl xs.length (byteCells ⟨xs.toArray⟩) (Src.ofString _ Tryz.underlying9 ⟨xs.toArray⟩) (by omega) (by omega) ?_)
  intro g2 c2 w2 P2
  have HG2 := hid (HG1.out.app (l2 := xs) P2 (by simp) rfl (byteCells_u8 xs))
  clear P2
  go_wp2
  go_ret
  refine ⟨g2, c2, ?_, ?_⟩
  · simp [lineBytes]; omega
  · have := HG2.out
    rw [List.append_assoc] at this
    exact this

end Go.Proofs.YtolififimldmlaaGreat
