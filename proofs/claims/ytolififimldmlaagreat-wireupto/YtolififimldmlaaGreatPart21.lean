import Derived.Test.YtolififimldmlaaGreatPart20
set_option linter.unusedVariables false
set_option linter.unusedSimpArgs false
namespace Go.Proofs.YtolififimldmlaaGreat
open Go.RowKit
attribute [local go_sem ↓] Go.wp_at_zero Go.wp_at_succ

set_option maxHeartbeats 1000000 in
theorem rightRec_go (m : Mm) (a : Option Addr) (cap : Nat) (w : World) (hl : LinesAt w a m.ls) (hn : m.ls.length ≤ 100000000) (hcap : m.ls.length ≤ cap) : Calls Tryz.prog 131 #[m.val a cap] w fun e w' => e = .returned (.bool (okM m)) ∧ Below w.heap.size w w' := by
  obtain ⟨view, last, ls⟩ := m
  have HL := hid hl
  dsimp only at HL hn hcap
  clear hl
  have HV : Hid ((Mm.mk view last ls).val a cap = .agg #[.int .i64 view, .int .i64 last, .slice a ls.length cap]) := rfl
  rw [HV.out]
  have HO : Hid (okM ⟨view, last, ls⟩ = (decide (last ≤ view) && decide (view ≤ 100) && linesOk ls)) := rfl
  have HR := hid (fun x (h : LinesAt x a ls) => right_lines a cap ls x h hn hcap)
  unfold sla at HR
  by_cases h1 : last ≤ view
  · by_cases h2 : view ≤ 100
    · go_enter Tryz.func131, Tryz.ntmps131
      go_wp2_with fail
      refine (HR.out _ (HL.out.alloc _)).mono ?_
      rintro e w2 ⟨rfl, hb2⟩
      have HB2 := hid hb2
      clear hb2
      go_wp2
      go_ret
      exact ⟨ret_bool (by rw [HO.out]; simp [h1, h2]), ((Below.refl _ _).alloc (Nat.le_refl _) _).trans (HB2.out.mono (by simp))⟩
    · go_enter Tryz.func131, Tryz.ntmps131
      go_wp2
      go_ret
      exact ⟨ret_bool (by rw [HO.out, decide_eq_false (show ¬ view ≤ 100 by omega)]; simp), (Below.refl _ _).alloc (Nat.le_refl _) _⟩
  · go_enter Tryz.func131, Tryz.ntmps131
    go_wp2
    go_ret
    exact ⟨ret_bool (by rw [HO.out, decide_eq_false (show ¬ last ≤ view by omega)]; simp), (Below.refl _ _).alloc (Nat.le_refl _) _⟩

theorem cand_len {m nn : Mm} {b : List UInt8} (hm : m.ls.length ≤ 20) (h : candM m b = some nn) : nn.ls.length ≤ 100000000 := by
  unfold candM at h
  split at h
  · cases h
  · split at h
    · split at h
      · cases h; simp; omega
      · cases h
    · split at h
      · split at h
        · cases h; show m.ls.length ≤ _; omega
        · cases h
      · split at h
        · split at h
          · cases h
          · split at h
            · cases h
              have := tsLines_len (b.drop 2)
              show (tsLines (b.drop 2)).length ≤ _
              omega
            · cases h
        · cases h

/-- A disk was read by the program. -/
def ReadP (w : World) (s : List UInt8) (e : Ending) (w' : World) : Prop :=
  ∃ g c, e = .returned (.tuple #[(readD s).1.val (g.map fun k => (⟨k, 0, none⟩ : Addr)) c, .int .i64 (readD s).2]) ∧ OwnLines w w' g c (readD s).1.ls ∧ Below w.heap.size w w'

theorem readPRet {Q : Ending → World → Prop} {a : Act} {W : World} {B : Nat} {fz : Nat × Nat} {v0 v1 v2 : Value} {er : Int} (hB : W.heap[B]? = some (.cells #[v0, v1, v2] 94 fz))
    (ht : a.tmps[2]? = some (.pointer (some ⟨B, 0, none⟩))) (he : a.tmps[3]? = some (.int .i64 er)) (hd : a.defers = []) (hq : Q (.returned (.tuple #[.agg #[v0, v1, v2], .int .i64 er])) W) : bodyPost Tryz.prog Tryz.f84 Q Exit.ret a W := by
  have c0 : W.cell? ⟨B, 0, none⟩ = some v0 := (cell_of_heap hB 0).trans rfl
  have c1 : W.cell? ⟨B, 1, none⟩ = some v1 := (cell_of_heap hB 1).trans rfl
  have c2 : W.cell? ⟨B, 2, none⟩ = some v2 := (cell_of_heap hB 2).trans rfl
  exact bodyPost_ret (v := .tuple #[.agg #[v0, v1, v2], .int .i64 er]) (by simp [results, Tryz.results84, go_sem, ht, he, c0, c1, c2]) hd hq

/-- How far the program has read. -/
structure PAt (w : World) (s : List UInt8) (R : Nat) (wr : World) (k : Nat) (m : Mm) (g : Option Nat) (c f : Nat) : Prop where
  at_ : readD s = readF s f m k
  fuel : s.length + 1 ≤ f + k
  box : MBox R 94 (.int .i64 m.view) (.int .i64 m.last) (.slice (g.map fun x => ⟨x, 0, none⟩) m.ls.length c) wr
  own : OwnLines w wr g c m.ls
  bel : Below w.heap.size w wr
  few : m.ls.length ≤ 20
  nR : g ≠ some R

set_option maxRecDepth 100000 in
set_option maxHeartbeats 4000000 in
theorem readP_go (g0 o n cap : Nat) (s : List UInt8) (w : World) (hb : BytesIn w (some ⟨g0, o, none⟩) s) (hbl : s.length = n) (hn : s.length ≤ 10000000) (hcap : s.length ≤ cap) : Calls Tryz.prog 84 #[.slice (some ⟨g0, o, none⟩) n cap] w (ReadP w s) := by
  have HB := hid hb
  have HBL := hid hbl
  clear hb
  go_enter Tryz.func84, Tryz.ntmps84
  go_wp2
  have HI0 : Hid (PAt w s w.heap.size (w.alloc (.cells #[.int .i64 0, .int .i64 0, .slice none 0 0] 94)) 0 Mm.zero none 0 (s.length + 1)) :=
    ⟨rfl, by omega, heap_alloc_new w _, OwnLines.none_ _ _, (Below.refl _ _).alloc (Nat.le_refl _) _, (by show 0 ≤ 20; omega), fun e => (by cases e)⟩
  go_loopw [3] (fun av wr => ∃ (k : Nat) (m : Mm) (g : Option Nat) (c f : Nat), k ≤ n ∧ av = .int .i64 k ∧ Hid (PAt w s w.heap.size wr k m g c f)) (fun av _ => n - (intOf av).toNat)
  case atStart => exact ⟨0, Mm.zero, none, 0, s.length + 1, Nat.zero_le _, rfl, HI0.out⟩
  case round =>
    obtain ⟨k, m, g, c, f, hk, rfl, HI⟩ := hrel
    clear HI0
    obtain ⟨b0, b1, b2, fb⟩ := mbox_cells HI.out.box
    have hki : (0 : Int) ≤ (k : Int) := by omega
    have hkn : (k : Int) ≤ (n : Int) := by omega
    have hkc : (k : Int) ≤ (cap : Int) := by omega
    have HDL : Hid ((s.drop k).length = n - k) := by show _ = _; rw [List.length_drop]; omega
    by_cases hck : cap = k
    · have hnk : n = k := by omega
      have HE : Hid (readD s = (m, k)) := by
        show _ = _
        rw [HI.out.at_]
        exact readF_stop (by unfold recOf; rw [if_pos (by have := HDL.out; omega)]) f
      subst hck
      subst hnk
      go_wp2_with fail
      refine (first_go (some ⟨g0, o, none⟩) 0 0 [] w _ (BytesIn.nil _ _) HI.out.bel rfl (by simp) (by simp)).mono ?_
      rintro e w1 ⟨hw1, hdd⟩
      rw [hw1]
      clear hw1 w1
      rcases hdd with ⟨_, rfl⟩ | ⟨inner, cnt, a', cap', hrec, _⟩
      · go_wp2
        refine readPRet (mset2 (mset1 (mset0 HI.out.box _) _) _) rfl rfl rfl ⟨g, c, ?_, ?_, ?_⟩
        · rw [HE.out]; rfl
        · rw [HE.out]; exact ((HI.out.own.setOther w.heap.size 0 _ HI.out.nR).setOther w.heap.size 1 _ HI.out.nR).setOther w.heap.size 2 _ HI.out.nR
        · exact ((HI.out.bel.setCell (p := ⟨w.heap.size, 0, none⟩) (Nat.le_refl _) _).setCell (p := ⟨w.heap.size, 1, none⟩) (Nat.le_refl _) _).setCell (p := ⟨w.heap.size, 2, none⟩) (Nat.le_refl _) _
      · exact absurd hrec (by simp [recOf])
    · have HBD : Hid (BytesIn w (some ⟨g0, o + k, none⟩) (s.drop k)) := HB.out.drop k
      go_wp2_with fail
      refine (first_go (some ⟨g0, o + k, none⟩) (n - k) (cap - k) (s.drop k) w _ HBD.out HI.out.bel HDL.out (by have := HDL.out; omega) (by have := HDL.out; omega)).mono ?_
      rintro e w1 ⟨hw1, hdd⟩
      rw [hw1]
      clear hw1 w1
      rcases hdd with ⟨hno, rfl⟩ | ⟨inner, cnt, a', cap', hrec, rfl, hbi, hic, hi256⟩
      · have HE : Hid (readD s = (m, k)) := by show _ = _; rw [HI.out.at_]; exact readF_stop hno f
        clear hno
        go_wp2
        refine readPRet (mset2 (mset1 (mset0 HI.out.box _) _) _) rfl rfl rfl ⟨g, c, ?_, ?_, ?_⟩
        · rw [HE.out]; rfl
        · rw [HE.out]; exact ((HI.out.own.setOther w.heap.size 0 _ HI.out.nR).setOther w.heap.size 1 _ HI.out.nR).setOther w.heap.size 2 _ HI.out.nR
        · exact ((HI.out.bel.setCell (p := ⟨w.heap.size, 0, none⟩) (Nat.le_refl _) _).setCell (p := ⟨w.heap.size, 1, none⟩) (Nat.le_refl _) _).setCell (p := ⟨w.heap.size, 2, none⟩) (Nat.le_refl _) _
      · have HREC := hid hrec
        have HBI := hid hbi
        have HIC := hid hic
        have HI256 := hid hi256
        have hcl := recOf_len hrec
        have HCL := hid hcl
        dsimp only at hcl
        have hcl2 : 3 ≤ cnt ∧ cnt ≤ n - k := by have := HDL.out; omega
        clear hrec hbi hic hi256 hcl
        have HMV : Hid (m.val (g.map fun x => (⟨x, 0, none⟩ : Addr)) c = .agg #[.int .i64 m.view, .int .i64 m.last, .slice (g.map fun x => ⟨x, 0, none⟩) m.ls.length c]) := rfl
        go_wp2_with fail
        rw [← HMV.out]
        refine (after_go m g c a' inner.length cap' inner w w _ HI.out.own HI.out.few HI.out.bel.size HBI.out HI.out.bel rfl (by have := HI256.out; omega) HIC.out).mono ?_
        rintro e w2 ⟨ho2, ht2, hdd⟩
        have O2 := hid ho2
        have T2 := hid ht2
        have B2 := hid (HI.out.box.touch ht2 HI.out.nR)
        have W2 : Hid (Below w.heap.size w w2) := HI.out.bel.trans (ht2.below HI.out.bel.size (fun k _ e => HI.out.own.new k e))
        clear ho2 ht2 b0 b1 b2 fb
        obtain ⟨b0, b1, b2, fb⟩ := mbox_cells B2.out
        have hRl : w.heap.size < w2.heap.size := heap_lt B2.out
        rcases hdd with ⟨hcd, rfl⟩ | ⟨nn, g2, c2, hcd, rfl, hon, _⟩
        · have HE : Hid (readD s = (m, k)) := by
            show _ = _
            rw [HI.out.at_]
            exact readF_no HREC.out (by unfold doesM; dsimp only; rw [hcd]; rfl) f
          clear hcd
          go_wp2
          refine readPRet (alloc_keep1 (mset2 (mset1 (mset0 B2.out _) _) _)) rfl rfl rfl ⟨g, c, ?_, ?_, ?_⟩
          · rw [HE.out]; rfl
          · rw [HE.out]; exact (((O2.out.setOther w.heap.size 0 _ HI.out.nR).setOther w.heap.size 1 _ HI.out.nR).setOther w.heap.size 2 _ HI.out.nR).below ((Below.refl _ _).alloc (Nat.le_refl _) _)
          · exact (((W2.out.setCell (p := ⟨w.heap.size, 0, none⟩) (Nat.le_refl _) _).setCell (p := ⟨w.heap.size, 1, none⟩) (Nat.le_refl _) _).setCell (p := ⟨w.heap.size, 2, none⟩) (Nat.le_refl _) _).alloc (by simp only [size_setCell]; exact W2.out.size) _
        · have HCD := hid hcd
          have HON := hid hon
          have HNL : Hid (nn.ls.length ≤ 100000000) := cand_len HI.out.few HCD.out
          clear hcd hon
          have HMV2 : Hid (nn.val (g2.map fun x => (⟨x, 0, none⟩ : Addr)) c2 = .agg #[.int .i64 nn.view, .int .i64 nn.last, .slice (g2.map fun x => ⟨x, 0, none⟩) nn.ls.length c2]) := rfl
          rw [HMV2.out]
          go_wp2_with fail
          rw [← HMV2.out]
          refine (rightRec_go nn (g2.map fun x => (⟨x, 0, none⟩ : Addr)) c2 _ (by exact HON.out.at_.below ((Below.refl _ _).alloc (Nat.le_refl _) _)) HNL.out HON.out.cap).mono ?_
          rintro e w3 ⟨rfl, hb3⟩
          have b23 : Below w2.heap.size w2 w3 := ((Below.refl _ w2).alloc (Nat.le_refl _) _).trans (hb3.mono (by simp))
          have B3 := hid (B2.out.below b23)
          have O3 := hid (O2.out.below b23)
          have ON3 := hid (HON.out.below b23)
          have W3 := hid (W2.out.trans (b23.mono W2.out.size))
          have T3 : Hid (MBox w2.heap.size 94 (.int .i64 nn.view) (.int .i64 nn.last) (.slice (g2.map fun x => ⟨x, 0, none⟩) nn.ls.length c2) w3) := MBox.below (heap_alloc_new w2 _) hb3
          clear hb3 b23 b0 b1 b2 fb
          obtain ⟨b0, b1, b2, fb⟩ := mbox_cells B3.out
          obtain ⟨t0, t1, t2, ft⟩ := mbox_cells T3.out
          cases hok : okM nn
          · have HE : Hid (readD s = (m, k)) := by
              show _ = _
              rw [HI.out.at_]
              exact readF_no HREC.out (by unfold doesM; dsimp only; rw [HCD.out]; simp [hok]) f
            clear hok
            go_wp2
            refine readPRet (mset2 (mset1 (mset0 B3.out _) _) _) rfl rfl rfl ⟨g, c, ?_, ?_, ?_⟩
            · rw [HE.out]; rfl
            · rw [HE.out]; exact ((O3.out.setOther w.heap.size 0 _ HI.out.nR).setOther w.heap.size 1 _ HI.out.nR).setOther w.heap.size 2 _ HI.out.nR
            · exact ((W3.out.setCell (p := ⟨w.heap.size, 0, none⟩) (Nat.le_refl _) _).setCell (p := ⟨w.heap.size, 1, none⟩) (Nat.le_refl _) _).setCell (p := ⟨w.heap.size, 2, none⟩) (Nat.le_refl _) _
          · have HOKM := hid hok
            have HD : Hid (doesM m inner = some nn) := by show _ = _; unfold doesM; rw [HCD.out]; simp [hok]
            obtain ⟨f', hf1, hf2⟩ := readF_step (p := (inner, cnt)) HI.out.fuel HREC.out HD.out
            have HF1 := hid (HI.out.at_.trans hf1)
            have HF2 := hid hf2
            have hg2R : Hid (g2 ≠ some w.heap.size) := fun e => ON3.out.notBox e B3.out
            have wkc : IntKind.i64.wrap ((k : Int) + (cnt : Int)) = ((k + cnt : Nat) : Int) := by rw [IntWalk.i64_left, IntWalk.wrap64_in _ (by omega)]; omega
            clear hok hf1 hf2
            go_wp2
            go_roundw
            case rel => exact ⟨k + cnt, nn, g2, c2, f', by omega, by go_num, ⟨HF1.out, HF2.out, mset2 (mset1 (mset0 B3.out _) _) _, ((ON3.out.setOther w.heap.size 0 _ hg2R.out).setOther w.heap.size 1 _ hg2R.out).setOther w.heap.size 2 _ hg2R.out, ((W3.out.setCell (p := ⟨w.heap.size, 0, none⟩) (Nat.le_refl _) _).setCell (p := ⟨w.heap.size, 1, none⟩) (Nat.le_refl _) _).setCell (p := ⟨w.heap.size, 2, none⟩) (Nat.le_refl _) _, okM_len HOKM.out, hg2R.out⟩⟩
            case measure => simp [intOf]; omega

end Go.Proofs.YtolififimldmlaaGreat
