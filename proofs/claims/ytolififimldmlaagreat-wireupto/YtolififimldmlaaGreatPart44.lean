import Derived.Test.YtolififimldmlaaGreatPart43
set_option linter.unusedVariables false
set_option linter.unusedSimpArgs false
namespace Go.Proofs.YtolififimldmlaaGreat
open Go.RowKit
attribute [local go_sem ↓] Go.wp_at_zero Go.wp_at_succ
attribute [local go_sem] taSaySayFrame

set_option maxRecDepth 100000 in
set_option maxHeartbeats 4000000 in
theorem unlessAliveV (v : PV) (B : Nat) (w : World) (h : v.At w B) (hl : v.lost = []) (a : Option Addr) (n c : Nat) : Calls Tryz.prog 42 #[.pointer (some ⟨B, 0, none⟩), .slice a n c] w fun e w' => e = .returned (.tuple #[.slice a n c, .int .i64 0]) ∧ Below w.heap.size w w' := by
  have FV := hid (failedV v B w h)
  rw [hl] at FV
  clear h hl
  go_enter Tryz.func42, Tryz.ntmps42
  go_wp2_with fail
  refine FV.out.mono ?_
  rintro e X0 ⟨rfl, hb0⟩
  have HB0 := hid hb0
  clear hb0 FV
  simp only [List.length_nil, Nat.lt_irrefl, decide_false]
  go_wp2
  go_ret2
  exact ⟨rfl, HB0.out⟩

set_option maxRecDepth 100000 in
set_option maxHeartbeats 4000000 in
theorem hearSayT (R : Ending → World → Prop) (B : Nat) (w : World) (c t : Int) (s : List UInt8) (HS : ∀ z, Below w.heap.size w z → Calls Tryz.prog 81 #[.pointer (some ⟨B, 0, none⟩), .agg #[.int .i64 c, .int .i64 t, .string ⟨s.toArray⟩]] z fun e w' => ∃ a n q, e = .returned (.slice a n q) ∧ R e w') :
    Calls Tryz.prog 43 #[.pointer (some ⟨B, 0, none⟩), .iface 149 (.agg #[.int .i64 c, .int .i64 t, .string ⟨s.toArray⟩])] w fun e w' => ∃ a n q, e = .returned (.slice a n q) ∧ R e w' := by
  have HH := hid HS
  clear HS
  go_enter Tryz.func43, Tryz.ntmps43
  go_wp2_with fail
  refine (HH.out _ ((Below.refl _ _).alloc (Nat.le_refl _) _)).mono ?_
  rintro e w1 ⟨a, n, q, rfl, hr⟩
  have HR := hid hr
  clear hr HH
  go_wp2
  go_ret
  exact ⟨a, n, q, rfl, HR.out⟩

end Go.Proofs.YtolififimldmlaaGreat

set_option linter.unusedVariables false
set_option linter.unusedSimpArgs false
namespace Go.Proofs.YtolififimldmlaaGreat
open Go.RowKit
attribute [local go_sem ↓] Go.wp_at_zero Go.wp_at_succ
attribute [local go_sem] taSaySayFrame

set_option maxRecDepth 100000 in
set_option maxHeartbeats 4000000 in
theorem acceptsSay (B : Nat) (w : World) (c t : Int) (s : List UInt8) : Calls Tryz.prog 41 #[.pointer (some ⟨B, 0, none⟩), .iface 149 (.agg #[.int .i64 c, .int .i64 t, .string ⟨s.toArray⟩])] w fun e w' => e = .returned (.bool true) ∧ Below w.heap.size w w' := by
  go_enter Tryz.func41, Tryz.ntmps41
  go_wp2
  go_ret
  exact ⟨rfl, (Below.refl _ _).alloc (Nat.le_refl _) _⟩

/-- What Heard gives of a line that the head takes. -/
def HeardSayRet (v : PV) (B n : Nat) (narm : Int) (l : Ln) (w : World) (e : Ending) (w' : World) : Prop :=
  ∃ g c gs cs gd' cd' gl' cl', e = .returned (.tuple #[sl g (othersL v.me n).length c, .int .i64 0]) ∧ OwnOuts w w' g c ((othersL v.me n).map fun t => ⟨false, t, packS ⟨2, v.me, v.m.view, (v.m.ls.length + 1 : Nat), v.ag, 0, l, []⟩⟩) gs cs ∧ Chg w w' B v (v.more l narm gd' cd' gl' cl')

set_option maxRecDepth 100000 in
set_option maxHeartbeats 8000000 in
/-- Heard, of a line that the head takes. -/
theorem heardSayOkV (v : PV) (B : Nat) (w : World) (h : v.At w B) (n : Nat) (hkn : v.kp = n) (hk : v.kp = 3 ∨ v.kp = 5) (hv : 0 ≤ v.m.view) (hin : v.m.last = v.m.view) (hme : v.m.view % v.kp = v.me) (hl : v.lost = []) (narm : Int) (harm : (v.arm = 0 ∧ narm = 0) ∨ (2 ≤ v.arm ∧ v.arm ≤ 9223372036854775807 ∧ narm = v.arm - 1))
    (h20 : v.m.ls.length < 20) (hdl : v.d.length ≤ 9900000) (gb o cap : Nat) (b : List UInt8) (hb : BytesIn w (some ⟨gb, o, none⟩) b) (hbn : b.length ≤ 10000000) (hcap : b.length ≤ cap) (f : Fr) (hR : unpackR b = some f) (hf1 : f.kind = 1) (hff : f.line.fits) (ht : turnOf v.m.ls f.line.c < f.line.t) :
    Calls Tryz.prog 21 #[.pointer (some ⟨B, 0, none⟩), .slice (some ⟨gb, o, none⟩) b.length cap] w (HeardSayRet v B n narm f.line w) := by
  have FV := hid (failedV v B w h)
  rw [hl] at FV
  have RV : Hid (∀ z, Below w.heap.size w z → Calls Tryz.prog 40 #[.slice (some ⟨gb, o, none⟩) b.length cap] z (ReadRet z b)) := fun z hz => readF_go gb o cap b z (hb.below hz) hbn hcap
  have HR := hid hR
  have HT : Hid (∀ a cp, f.typed a cp = .iface 149 (.agg #[.int .i64 f.line.c, .int .i64 f.line.t, .string ⟨f.line.s.toArray⟩])) := fun a cp => by unfold Fr.typed; rw [if_pos hf1]
  have HV := hid h
  have HH : Hid (∀ z, Below w.heap.size w z → Calls Tryz.prog 43 #[.pointer (some ⟨B, 0, none⟩), .iface 149 (.agg #[.int .i64 f.line.c, .int .i64 f.line.t, .string ⟨f.line.s.toArray⟩])] z fun e w' => ∃ a nn q, e = .returned (.slice a nn q) ∧ ∃ g c gs cs gd' cd' gl' cl', e = .returned (sl g (othersL v.me n).length c) ∧ OwnOuts w w' g c ((othersL v.me n).map fun t => ⟨false, t, packS ⟨2, v.me, v.m.view, (v.m.ls.length + 1 : Nat), v.ag, 0, f.line, []⟩⟩) gs cs ∧ Chg w w' B v (v.more f.line narm gd' cd' gl' cl')) := fun z hz =>
    hearSayT _ B z f.line.c f.line.t f.line.s (fun y hy => (hearSayOkV v B y (h.below (hz.trans (hy.mono hz.size))) n hkn hk hv hin hme hl narm harm f.line hff ht h20 hdl).mono (by
      rintro e w' ⟨g, c, gs, cs, gd', cd', gl', cl', rfl, h1, h2, h3⟩
      exact ⟨_, _, _, rfl, g, c, gs, cs, gd', cd', gl', cl', rfl, h1.base (Nat.le_trans hz.size hy.size), Chg.of (hz.trans (hy.mono hz.size)) h h2⟩))
  have HL0 := hid hl
  clear h hl harm h20 hdl hb hbn hcap hR hf1 hff ht hkn hk hv hin hme
  go_enter Tryz.func21, Tryz.ntmps21
  go_wp2_with fail
  refine FV.out.mono ?_
  rintro e X0 ⟨rfl, hb0⟩
  have HB0 := hid hb0
  clear hb0 FV
  simp only [List.length_nil, Nat.lt_irrefl, decide_false]
  go_wp2_with fail
  refine (RV.out _ HB0.out).mono ?_
  rintro e X1 ⟨hb1, h1⟩
  rcases h1 with ⟨hn, _⟩ | ⟨f', g1, c1, hf', rfl, _⟩
  · rw [HR.out] at hn; cases hn
  rw [HR.out] at hf'
  cases hf'
  rw [HT.out]
  have HB1 := hid (HB0.out.trans (hb1.mono HB0.out.size))
  clear hb1 RV HR HT
  obtain ⟨kind, frm, view, place, agreed, last, ⟨lc, lt, ls⟩, lns⟩ := f
  dsimp only at *
  go_wp2_with fail
  refine (acceptsSay B X1 lc lt ls).mono ?_
  rintro e X2 ⟨rfl, hb2⟩
  have HB2 := hid (HB1.out.trans (hb2.mono HB1.out.size))
  clear hb2
  go_wp2_with fail
  refine (HH.out _ HB2.out).mono ?_
  rintro e X3 ⟨a3, n3, q3, rfl, g, c, gs, cs, gd', cd', gl', cl', he, h1, h2⟩
  have HO := hid h1
  have HC := hid h2
  have HE := hid he
  clear h1 h2 he HH
  have HUA := hid (unlessAliveV _ B X3 HC.out.at_ HL0.out a3 n3 q3)
  go_wp2_with fail
  refine HUA.out.mono ?_
  rintro e X4 ⟨rfl, hb4⟩
  have HB4 := hid hb4
  clear hb4 HUA
  go_wp2
  go_ret2
  have e1 := HE.out
  rw [Ending.returned.injEq] at e1
  unfold HeardSayRet
  refine ⟨g, c, gs, cs, gd', cd', gl', cl', ?_, HO.out.below HB4.out, HC.out.below HB4.out⟩
  rw [← e1]; rfl

end Go.Proofs.YtolififimldmlaaGreat

set_option linter.unusedVariables false
set_option linter.unusedSimpArgs false
namespace Go.Proofs.YtolififimldmlaaGreat
open Go.RowKit
attribute [local go_sem ↓] Go.wp_at_zero Go.wp_at_succ

theorem stampedPrepare (a b c d e f g : Value) (w : World) : (method 436 153 (.agg #[a, b, c, d, e, f, g]) "Stamped").run Tryz.prog w = .ok (277, .agg #[a, b]) w := by kernel_rfl
theorem stampedHold (a b c : Value) (w : World) : (method 436 204 (.agg #[a, b, c]) "Stamped").run Tryz.prog w = .ok (277, .agg #[a, b]) w := by kernel_rfl
theorem stampedBeat (a b c : Value) (w : World) : (method 436 156 (.agg #[a, b, c]) "Stamped").run Tryz.prog w = .ok (277, .agg #[a, b]) w := by kernel_rfl
theorem stampedChange (a b : Value) (w : World) : (method 436 206 (.agg #[a, b]) "Stamped").run Tryz.prog w = .ok (277, .agg #[a, b]) w := by kernel_rfl
theorem stampedYield (a b c d e : Value) (w : World) : (method 436 208 (.agg #[a, b, c, d, e]) "Stamped").run Tryz.prog w = .ok (277, .agg #[a, b]) w := by kernel_rfl
theorem stampedBegin (a b c d : Value) (w : World) : (method 436 158 (.agg #[a, b, c, d]) "Stamped").run Tryz.prog w = .ok (277, .agg #[a, b]) w := by kernel_rfl
theorem stampedLag (a b : Value) (w : World) : (method 436 209 (.agg #[a, b]) "Stamped").run Tryz.prog w = .ok (277, .agg #[a, b]) w := by kernel_rfl

theorem run_fieldS (w : World) (a b : Value) : (Instr.field 151 (.agg #[a, b]) 0).run Tryz.prog w = .ok a w := by
  unfold Instr.field
  simp [go_sem, asAgg]

set_option maxRecDepth 100000 in
set_option maxHeartbeats 4000000 in
theorem stamped_go (a b : Int) (w : World) : Calls Tryz.prog 277 #[.agg #[.int .i64 a, .int .i64 b]] w fun e w' => e = .returned (.agg #[.int .i64 a, .int .i64 b]) ∧ Below w.heap.size w w' := by
  go_enter Tryz.func277, Tryz.ntmps277
  go_wp2
  refine bodyPost_ret (v := .agg #[.int .i64 a, .int .i64 b]) ?_ rfl ⟨rfl, ((Below.refl _ _).alloc (Nat.le_refl _) _).alloc (by rw [World.size_alloc]; omega) _⟩
  simp [results, Tryz.results277, go_sem, World.cell?_alloc_at, World.cell?_alloc_new]

attribute [local go_sem] run_fieldS

section
attribute [local go_sem] taHoldSayFrame taHoldPrepareFrame taHoldBeatFrame taHoldBeginFrame taHoldOf stampedHold
set_option maxRecDepth 100000 in
set_option maxHeartbeats 4000000 in
theorem acceptsHold (v : PV) (B : Nat) (w : World) (h : v.At w B) (fr vw pl : Int) : Calls Tryz.prog 41 #[.pointer (some ⟨B, 0, none⟩), .iface 204 (.agg #[.int .i64 fr, .int .i64 vw, .int .i64 pl])] w fun e w' => e = .returned (.bool (decide (0 ≤ fr) && decide (fr < v.kp) && (fr != v.me))) ∧ Below w.heap.size w w' := by
  have IO : Hid (∀ z, Below w.heap.size w z → Calls Tryz.prog 80 #[.pointer (some ⟨B, 0, none⟩), .int .i64 fr] z fun e w' => e = .returned (.bool (decide (0 ≤ fr) && decide (fr < v.kp) && (fr != v.me))) ∧ Below z.heap.size z w') := fun z hz => isOtherV v B z (h.below hz) fr
  clear h
  generalize (decide (0 ≤ fr) && decide (fr < v.kp) && (fr != v.me)) = bb at *
  go_enter Tryz.func41, Tryz.ntmps41
  go_wp2_with fail
  refine (stamped_go fr vw w).mono ?_
  rintro e X1 ⟨rfl, hb1⟩
  have HB1 := hid hb1
  clear hb1
  go_wp2_with fail
  refine (IO.out _ HB1.out).mono ?_
  rintro e X2 ⟨rfl, hb2⟩
  have HB2 := hid (HB1.out.trans (hb2.mono HB1.out.size))
  clear hb2 IO
  go_wp2
  go_ret
  exact ⟨rfl, HB2.out⟩
end

section
attribute [local go_sem] taLagSayFrame taLagPrepareFrame taLagBeatFrame taLagBeginFrame taLagOf stampedLag
set_option maxRecDepth 100000 in
set_option maxHeartbeats 4000000 in
theorem acceptsLag (v : PV) (B : Nat) (w : World) (h : v.At w B) (fr vw : Int) : Calls Tryz.prog 41 #[.pointer (some ⟨B, 0, none⟩), .iface 209 (.agg #[.int .i64 fr, .int .i64 vw])] w fun e w' => e = .returned (.bool (decide (0 ≤ fr) && decide (fr < v.kp) && (fr != v.me))) ∧ Below w.heap.size w w' := by
  have IO : Hid (∀ z, Below w.heap.size w z → Calls Tryz.prog 80 #[.pointer (some ⟨B, 0, none⟩), .int .i64 fr] z fun e w' => e = .returned (.bool (decide (0 ≤ fr) && decide (fr < v.kp) && (fr != v.me))) ∧ Below z.heap.size z w') := fun z hz => isOtherV v B z (h.below hz) fr
  clear h
  generalize (decide (0 ≤ fr) && decide (fr < v.kp) && (fr != v.me)) = bb at *
  go_enter Tryz.func41, Tryz.ntmps41
  go_wp2_with fail
  refine (stamped_go fr vw w).mono ?_
  rintro e X1 ⟨rfl, hb1⟩
  have HB1 := hid hb1
  clear hb1
  go_wp2_with fail
  refine (IO.out _ HB1.out).mono ?_
  rintro e X2 ⟨rfl, hb2⟩
  have HB2 := hid (HB1.out.trans (hb2.mono HB1.out.size))
  clear hb2 IO
  go_wp2
  go_ret
  exact ⟨rfl, HB2.out⟩
end

end Go.Proofs.YtolififimldmlaaGreat

set_option linter.unusedVariables false
set_option linter.unusedSimpArgs false
namespace Go.Proofs.YtolififimldmlaaGreat
open Go.RowKit
attribute [local go_sem ↓] Go.wp_at_zero Go.wp_at_succ
attribute [local go_sem] taHoldHoldOfKeeper taHoldSayFrame taHoldOf stampedHold

/-- A list that is sent, and whatever else. -/
def SlRet (R : Ending → World → Prop) (e : Ending) (w' : World) : Prop := (∃ a n q, e = .returned (.slice a n q)) ∧ R e w'

set_option maxRecDepth 100000 in
set_option maxHeartbeats 4000000 in
theorem hearAsHeadHold (R : Ending → World → Prop) (B : Nat) (w : World) (fr vw pl : Int) (HS : ∀ z, Below w.heap.size w z → Calls Tryz.prog 188 #[.pointer (some ⟨B, 0, none⟩), .agg #[.int .i64 fr, .int .i64 vw, .int .i64 pl]] z (SlRet R)) :
    Calls Tryz.prog 170 #[.pointer (some ⟨B, 0, none⟩), .iface 204 (.agg #[.int .i64 fr, .int .i64 vw, .int .i64 pl])] w (SlRet R) := by
  have HH := hid HS
  clear HS
  go_enter Tryz.func170, Tryz.ntmps170
  go_wp2_with fail
  refine (HH.out _ ((Below.refl _ _).alloc (Nat.le_refl _) _)).mono ?_
  rintro e w1 ⟨⟨a, n, q, rfl⟩, hr⟩
  have HR := hid hr
  clear hr HH
  go_wp2
  go_ret
  exact ⟨⟨a, n, q, rfl⟩, HR.out⟩

set_option maxRecDepth 100000 in
set_option maxHeartbeats 4000000 in
theorem hearOwnHead (R : Ending → World → Prop) (v : PV) (B : Nat) (w : World) (h : v.At w B) (hk : v.kp = 3 ∨ v.kp = 5) (hv : 0 ≤ v.m.view) (hin : v.m.last = v.m.view) (hme : v.m.view % v.kp = v.me) (x : Value) (HS : ∀ z, Below w.heap.size w z → Calls Tryz.prog 170 #[.pointer (some ⟨B, 0, none⟩), x] z (SlRet R)) :
    Calls Tryz.prog 128 #[.pointer (some ⟨B, 0, none⟩), x] w (SlRet R) := by
  have IH := hid (isHeadV v B w h hv hk)
  have hb1 : ((v.m.last == v.m.view) && (v.m.view % v.kp == v.me)) = true := by rw [hin, hme]; simp
  rw [hb1] at IH
  have HH := hid HS
  clear HS h hk hv hin hme hb1
  go_enter Tryz.func128, Tryz.ntmps128
  go_wp2_with fail
  refine IH.out.mono ?_
  rintro e X0 ⟨rfl, hb0⟩
  have HB0 := hid hb0
  clear hb0 IH
  go_wp2_with fail
  refine (HH.out _ HB0.out).mono ?_
  rintro e w1 ⟨⟨a, n, q, rfl⟩, hr⟩
  have HR := hid hr
  clear hr HH
  go_wp2
  go_ret
  exact ⟨⟨a, n, q, rfl⟩, HR.out⟩

set_option maxRecDepth 100000 in
set_option maxHeartbeats 4000000 in
theorem hearKeeperOwnHold (R : Ending → World → Prop) (v : PV) (B : Nat) (w : World) (h : v.At w B) (fr vw pl : Int) (hvw : vw = v.m.view) (HS : ∀ z, Below w.heap.size w z → Calls Tryz.prog 128 #[.pointer (some ⟨B, 0, none⟩), .iface 204 (.agg #[.int .i64 fr, .int .i64 vw, .int .i64 pl])] z (SlRet R)) :
    Calls Tryz.prog 82 #[.pointer (some ⟨B, 0, none⟩), .iface 204 (.agg #[.int .i64 fr, .int .i64 vw, .int .i64 pl])] w (SlRet R) := by
  have VV : Hid (∀ z, Below w.heap.size w z → Calls Tryz.prog 88 #[.pointer (some ⟨B, 0, none⟩)] z fun e w' => e = .returned (.int .i64 vw) ∧ Below z.heap.size z w') := fun z hz => by rw [hvw]; exact viewV v B z (h.below hz)
  have HH := hid HS
  have l1 : ¬ (vw < vw) := by omega
  clear HS h hvw
  go_enter Tryz.func82, Tryz.ntmps82
  go_wp2_with fail
  refine (stamped_go fr vw w).mono ?_
  rintro e X0 ⟨rfl, hb0⟩
  have HB0 := hid hb0
  clear hb0
  go_wp2
  obtain ⟨Y, hY⟩ : ∃ Y, Y = X0.alloc (.cells #[.int .i64 fr, .int .i64 vw] 151) := ⟨_, rfl⟩
  rw [← hY]
  have HBY : Hid (Below w.heap.size w Y) := by show Below _ _ _; rw [hY]; exact HB0.out.alloc HB0.out.size _
  have HL : Hid (Y.heap[X0.heap.size]? = some (.cells #[.int .i64 fr, .int .i64 vw] 151 (0, 0))) := by show _ = _; rw [hY]; exact heap_alloc_new X0 _
  clear hY
  refine wp_region_held_drew (S := fun z : World => z.heap[X0.heap.size]? = some (.cells #[.int .i64 fr, .int .i64 vw] 151 (0, 0))) (by kernel_rfl) HL.out (fun hS => ?_)
  refine wpAnyH_take (i := 0) (v := ?rv1) rfl (by kernel_rfl) (by kernel_rfl) (by kernel_rfl) (fun _ _ _ h => h) (Or.inl ⟨by rfl, ?ry1⟩) hS ?rr1
  case ry1 => (intro w hw; clear hw; go_simp; try with_reducible rfl)
  try simp only [List.getElem_toArray, List.getElem_cons_zero, List.getElem_cons_succ, Act.put, List.setIfInBounds_toArray, List.set_cons_zero, List.set_cons_succ]
  refine wpAnyH_take (i := 2) (v := ?rv2) rfl (by kernel_rfl) (by kernel_rfl) (by kernel_rfl) (fun _ _ _ h => h) (Or.inl ⟨by rfl, ?ry2⟩) hS ?rr2
  case ry2 => (intro w hw; clear hw; go_simp; try with_reducible rfl)
  try simp only [List.getElem_toArray, List.getElem_cons_zero, List.getElem_cons_succ, Act.put, List.setIfInBounds_toArray, List.set_cons_zero, List.set_cons_succ]
  refine wpAnyH_take (i := 1) (v := ?rv9) rfl (by kernel_rfl) (by kernel_rfl) (by kernel_rfl) (fun _ _ _ h => h) (Or.inl ⟨by rfl, ?ry9⟩) hS ?rr9
  case ry9 => (intro w hw; have s0 := cell_of_heap hw 0; have s1 := cell_of_heap hw 1; simp only [List.getElem?_toArray, List.getElem?_cons_zero, List.getElem?_cons_succ] at s0 s1; clear hw; go_simp; try with_reducible rfl)
  try simp only [List.getElem_toArray, List.getElem_cons_zero, List.getElem_cons_succ, Act.put, List.setIfInBounds_toArray, List.set_cons_zero, List.set_cons_succ]
  refine wpAnyH_ready (rs := [3]) (by kernel_rfl) (by simp) ?_
  refine AllReadyH.cons rfl (fun K hK => ?_) AllReadyH.nil
  go_simp
  refine (VV.out _ HBY.out.drew).mono ?_
  rintro e X1 ⟨rfl, hbf⟩
  have HB1 := hid (HBY.out.drew.trans (hbf.mono HBY.out.size))
  have HL1 := hid ((hbf.block _ (heap_lt HL.out)).trans HL.out)
  clear hbf
  refine hK.out _ _ HL1.out (fun hS => ?_)
  clear hK K
  refine wpAnyH_take (i := 4) (v := ?rv3) rfl (by kernel_rfl) (by kernel_rfl) (by kernel_rfl) (fun _ _ _ h => h) (Or.inl ⟨by rfl, ?ry3⟩) hS ?rr3
  case ry3 => (intro w hw; clear hw; go_simp; try with_reducible rfl)
  try simp only [List.getElem_toArray, List.getElem_cons_zero, List.getElem_cons_succ, Act.put, List.setIfInBounds_toArray, List.set_cons_zero, List.set_cons_succ]
  refine wpAnyH_take (i := 5) (v := ?rv4) rfl (by kernel_rfl) (by kernel_rfl) (by kernel_rfl) (fun _ _ _ h => h) (Or.inl ⟨by rfl, ?ry4⟩) hS ?rr4
  case ry4 => (intro w hw; clear hw; go_simp; try with_reducible rfl)
  try simp only [List.getElem_toArray, List.getElem_cons_zero, List.getElem_cons_succ, Act.put, List.setIfInBounds_toArray, List.set_cons_zero, List.set_cons_succ]
  refine wpAnyH_done (by kernel_rfl) ?_ _
  clear hS
  go_wp2
  refine wp_region_held_drew (S := fun z : World => z.heap[X0.heap.size]? = some (.cells #[.int .i64 fr, .int .i64 vw] 151 (0, 0))) (by kernel_rfl) HL1.out (fun hS => ?_)
  refine wpAnyH_take (i := 0) (v := ?rv5) rfl (by kernel_rfl) (by kernel_rfl) (by kernel_rfl) (fun _ _ _ h => h) (Or.inl ⟨by rfl, ?ry5⟩) hS ?rr5
  case ry5 => (intro w hw; clear hw; go_simp; try with_reducible rfl)
  try simp only [List.getElem_toArray, List.getElem_cons_zero, List.getElem_cons_succ, Act.put, List.setIfInBounds_toArray, List.set_cons_zero, List.set_cons_succ]
  refine wpAnyH_take (i := 2) (v := ?rv6) rfl (by kernel_rfl) (by kernel_rfl) (by kernel_rfl) (fun _ _ _ h => h) (Or.inl ⟨by rfl, ?ry6⟩) hS ?rr6
  case ry6 => (intro w hw; clear hw; go_simp; try with_reducible rfl)
  try simp only [List.getElem_toArray, List.getElem_cons_zero, List.getElem_cons_succ, Act.put, List.setIfInBounds_toArray, List.set_cons_zero, List.set_cons_succ]
  refine wpAnyH_take (i := 1) (v := ?rv10) rfl (by kernel_rfl) (by kernel_rfl) (by kernel_rfl) (fun _ _ _ h => h) (Or.inl ⟨by rfl, ?ry10⟩) hS ?rr10
  case ry10 => (intro w hw; have s0 := cell_of_heap hw 0; have s1 := cell_of_heap hw 1; simp only [List.getElem?_toArray, List.getElem?_cons_zero, List.getElem?_cons_succ] at s0 s1; clear hw; go_simp; try with_reducible rfl)
  try simp only [List.getElem_toArray, List.getElem_cons_zero, List.getElem_cons_succ, Act.put, List.setIfInBounds_toArray, List.set_cons_zero, List.set_cons_succ]
  refine wpAnyH_ready (rs := [3]) (by kernel_rfl) (by simp) ?_
  refine AllReadyH.cons rfl (fun K hK => ?_) AllReadyH.nil
  go_simp
  refine (VV.out _ HB1.out.drew).mono ?_
  rintro e X2 ⟨rfl, hbf⟩
  have HB2 := hid (HB1.out.drew.trans (hbf.mono HB1.out.size))
  have HL2 := hid ((hbf.block _ (heap_lt HL1.out)).trans HL1.out)
  clear hbf
  refine hK.out _ _ HL2.out (fun hS => ?_)
  clear hK K
  refine wpAnyH_take (i := 4) (v := ?rv7) rfl (by kernel_rfl) (by kernel_rfl) (by kernel_rfl) (fun _ _ _ h => h) (Or.inl ⟨by rfl, ?ry7⟩) hS ?rr7
  case ry7 => (intro w hw; clear hw; go_simp; try with_reducible rfl)
  try simp only [List.getElem_toArray, List.getElem_cons_zero, List.getElem_cons_succ, Act.put, List.setIfInBounds_toArray, List.set_cons_zero, List.set_cons_succ]
  refine wpAnyH_take (i := 5) (v := ?rv8) rfl (by kernel_rfl) (by kernel_rfl) (by kernel_rfl) (fun _ _ _ h => h) (Or.inl ⟨by rfl, ?ry8⟩) hS ?rr8
  case ry8 => (intro w hw; clear hw; go_simp; try with_reducible rfl)
  try simp only [List.getElem_toArray, List.getElem_cons_zero, List.getElem_cons_succ, Act.put, List.setIfInBounds_toArray, List.set_cons_zero, List.set_cons_succ]
  refine wpAnyH_done (by kernel_rfl) ?_ _
  clear hS VV
  go_wp2_with fail
  refine (HH.out _ HB2.out).mono ?_
  rintro e w1 ⟨⟨a, n, q, rfl⟩, hr⟩
  have HR := hid hr
  clear hr HH
  go_wp2
  go_ret
  exact ⟨⟨a, n, q, rfl⟩, HR.out⟩

set_option maxRecDepth 100000 in
set_option maxHeartbeats 4000000 in
theorem hearHoldT (R : Ending → World → Prop) (B : Nat) (w : World) (fr vw pl : Int) (HS : ∀ z, Below w.heap.size w z → Calls Tryz.prog 82 #[.pointer (some ⟨B, 0, none⟩), .iface 204 (.agg #[.int .i64 fr, .int .i64 vw, .int .i64 pl])] z (SlRet R)) :
    Calls Tryz.prog 43 #[.pointer (some ⟨B, 0, none⟩), .iface 204 (.agg #[.int .i64 fr, .int .i64 vw, .int .i64 pl])] w (SlRet R) := by
  have HH := hid HS
  clear HS
  go_enter Tryz.func43, Tryz.ntmps43
  go_wp2_with fail
  refine (HH.out _ (Below.refl _ _)).mono ?_
  rintro e w1 ⟨⟨a, n, q, rfl⟩, hr⟩
  have HR := hid hr
  clear hr HH
  go_wp2
  go_ret
  exact ⟨⟨a, n, q, rfl⟩, HR.out⟩

end Go.Proofs.YtolififimldmlaaGreat

set_option linter.unusedVariables false
set_option linter.unusedSimpArgs false
namespace Go.Proofs.YtolififimldmlaaGreat
open Go.RowKit
attribute [local go_sem ↓] Go.wp_at_zero Go.wp_at_succ

/-- What Heard gives of a Hold that the head hears. -/
def HeardHoldRet (v : PV) (B : Nat) (hs' : Nat → Int) (hf : Nat) (w : World) (e : Ending) (w' : World) : Prop :=
  ∃ g c gs cs, e = .returned (.tuple #[sl g (max v.ag hf - v.ag) c, .int .i64 0]) ∧ OwnOuts w w' g c (toldL v.m v.ag (max v.ag hf - v.ag)) gs cs ∧ Chg w w' B v { v with hs := hs', ag := max v.ag hf }

set_option maxRecDepth 100000 in
set_option maxHeartbeats 8000000 in
/-- Heard, of a Hold of the head's own view. -/
theorem heardHoldV (v : PV) (B : Nat) (w : World) (h : v.At w B) (n : Nat) (hkn : v.kp = n) (h35 : n = 3 ∨ n = 5) (hv : 0 ≤ v.m.view) (hin : v.m.last = v.m.view) (hme : v.m.view % v.kp = v.me) (hmr : 0 ≤ v.me ∧ v.me < n) (hl : v.lost = []) (h20 : v.m.ls.length ≤ 20) (hag : v.ag ≤ v.m.ls.length)
    (gb o cap : Nat) (b : List UInt8) (hb : BytesIn w (some ⟨gb, o, none⟩) b) (hbn : b.length ≤ 10000000) (hcap : b.length ≤ cap) (f : Fr) (hR : unpackR b = some f) (hf3 : f.kind = 3) (hfv : f.view = v.m.view) (hfo : 0 ≤ f.frm ∧ f.frm < n ∧ f.frm ≠ v.me) (hpl : f.place ≤ v.m.ls.length)
    (hs' : Nat → Int) (hhs : hs' = holdsSet v.hs f.frm.toNat (max (v.hs f.frm.toNat) f.place)) (hf : Nat) (hhf : heldFew hs' v.me n = hf) (hfl : hf ≤ v.m.ls.length) :
    Calls Tryz.prog 21 #[.pointer (some ⟨B, 0, none⟩), .slice (some ⟨gb, o, none⟩) b.length cap] w (HeardHoldRet v B hs' hf w) := by
  have FV := hid (failedV v B w h)
  rw [hl] at FV
  have RV : Hid (∀ z, Below w.heap.size w z → Calls Tryz.prog 40 #[.slice (some ⟨gb, o, none⟩) b.length cap] z (ReadRet z b)) := fun z hz => readF_go gb o cap b z (hb.below hz) hbn hcap
  have HR := hid hR
  have HT : Hid (∀ a cp, f.typed a cp = .iface 204 (.agg #[.int .i64 f.frm, .int .i64 f.view, .int .i64 f.place])) := fun a cp => by
    unfold Fr.typed
    rw [if_neg (by omega), if_neg (by omega), if_pos hf3]
  have hbb : (decide (0 ≤ f.frm) && decide (f.frm < v.kp) && (f.frm != v.me)) = true := by
    rw [decide_eq_true hfo.1, decide_eq_true (by omega : f.frm < v.kp)]
    simp [hfo.2.2]
  have AV : Hid (∀ z, Below w.heap.size w z → Calls Tryz.prog 41 #[.pointer (some ⟨B, 0, none⟩), .iface 204 (.agg #[.int .i64 f.frm, .int .i64 f.view, .int .i64 f.place])] z fun e w' => e = .returned (.bool true) ∧ Below z.heap.size z w') := fun z hz => by
    have := acceptsHold v B z (h.below hz) f.frm f.view f.place
    rw [hbb] at this
    exact this
  have hk : v.kp = 3 ∨ v.kp = 5 := by omega
  have HH : Hid (∀ z, Below w.heap.size w z → Calls Tryz.prog 43 #[.pointer (some ⟨B, 0, none⟩), .iface 204 (.agg #[.int .i64 f.frm, .int .i64 f.view, .int .i64 f.place])] z (SlRet fun e w' => ∃ g c gs cs, e = .returned (sl g (max v.ag hf - v.ag) c) ∧ OwnOuts w w' g c (toldL v.m v.ag (max v.ag hf - v.ag)) gs cs ∧ Chg w w' B v { v with hs := hs', ag := max v.ag hf })) := fun z hz =>
    hearHoldT _ B z f.frm f.view f.place (fun z1 h1 => hearKeeperOwnHold _ v B z1 (h.below (hz.trans (h1.mono hz.size))) f.frm f.view f.place hfv (fun z2 h2 => hearOwnHead _ v B z2 (h.below ((hz.trans (h1.mono hz.size)).trans (h2.mono (Nat.le_trans hz.size h1.size)))) hk hv hin hme _ (fun z3 h3 => hearAsHeadHold _ B z3 f.frm f.view f.place (fun z4 h4 => by
      have b1 := hz.trans (h1.mono hz.size)
      have b2 := b1.trans (h2.mono b1.size)
      have b3 := b2.trans (h3.mono b2.size)
      have b4 := b3.trans (h4.mono b3.size)
      refine (hearHoldV v B z4 (h.below b4) n hkn h35 hmr h20 f.frm f.view f.place ⟨hfo.1, by omega⟩ hpl hs' hhs hf hhf hfl hag).mono ?_
      rintro e w' ⟨g, c, gs, cs, rfl, k1, k2⟩
      exact ⟨⟨_, _, _, rfl⟩, g, c, gs, cs, rfl, k1.base b4.size, Chg.of b4 h k2⟩))))
  have HV := hid h
  have HL0 := hid hl
  clear h hl h20 hb hbn hcap hR hf3 hkn hk hv hin hme hmr hag hfv hfo hpl hhs hhf hfl h35 hbb
  go_enter Tryz.func21, Tryz.ntmps21
  go_wp2_with fail
  refine FV.out.mono ?_
  rintro e X0 ⟨rfl, hb0⟩
  have HB0 := hid hb0
  clear hb0 FV
  simp only [List.length_nil, Nat.lt_irrefl, decide_false]
  go_wp2_with fail
  refine (RV.out _ HB0.out).mono ?_
  rintro e X1 ⟨hb1, h1⟩
  rcases h1 with ⟨hn, _⟩ | ⟨f', g1, c1, hf', rfl, _⟩
  · rw [HR.out] at hn; cases hn
  rw [HR.out] at hf'
  cases hf'
  rw [HT.out]
  have HB1 := hid (HB0.out.trans (hb1.mono HB0.out.size))
  clear hb1 RV HR HT
  go_wp2_with fail
  refine (AV.out X1 HB1.out).mono ?_
  rintro e X2 ⟨rfl, hb2⟩
  have HB2 := hid (HB1.out.trans (hb2.mono HB1.out.size))
  clear hb2 AV
  go_wp2_with fail
  refine (HH.out _ HB2.out).mono ?_
  rintro e X3 ⟨⟨a3, n3, q3, rfl⟩, g, c, gs, cs, he, h1, h2⟩
  have HO := hid h1
  have HC := hid h2
  have HE := hid he
  clear h1 h2 he HH
  have HUA := hid (unlessAliveV _ B X3 HC.out.at_ HL0.out a3 n3 q3)
  go_wp2_with fail
  refine HUA.out.mono ?_
  rintro e X4 ⟨rfl, hb4⟩
  have HB4 := hid hb4
  clear hb4 HUA
  go_wp2
  go_ret2
  have e1 := HE.out
  rw [Ending.returned.injEq] at e1
  unfold HeardHoldRet
  refine ⟨g, c, gs, cs, ?_, HO.out.below HB4.out, HC.out.below HB4.out⟩
  rw [← e1]; rfl

end Go.Proofs.YtolififimldmlaaGreat

set_option linter.unusedVariables false
set_option linter.unusedSimpArgs false
namespace Go.Proofs.YtolififimldmlaaGreat
open Go.RowKit
attribute [local go_sem ↓] Go.wp_at_zero Go.wp_at_succ

set_option maxRecDepth 100000 in
set_option maxHeartbeats 4000000 in
theorem firstNil (w : World) : Calls Tryz.prog 129 #[.slice none 0 0] w fun e w' => (∃ x y, e = .returned (.tuple #[x, y, .bool false])) ∧ Below w.heap.size w w' := by
  go_enter Tryz.func129, Tryz.ntmps129
  go_wp2
  go_ret3
  exact ⟨⟨_, _, rfl⟩, Below.refl _ _⟩

set_option maxRecDepth 100000 in
set_option maxHeartbeats 4000000 in
theorem readNil (w : World) : Calls Tryz.prog 84 #[.slice none 0 0] w fun e w' => e = .returned (.tuple #[.agg #[.int .i64 0, .int .i64 0, .slice none 0 0], .int .i64 0]) ∧ Below w.heap.size w w' := by
  go_enter Tryz.func84, Tryz.ntmps84
  go_wp2
  go_loopw [3] (fun av wr => av = .int .i64 0 ∧ wr.heap[w.heap.size]? = some (.cells #[.int .i64 0, .int .i64 0, .slice none 0 0] 94 (0, 0)) ∧ Hid (Below w.heap.size w wr)) (fun _ _ => 0)
  case atStart => exact ⟨rfl, heap_alloc_new w _, (Below.refl _ _).alloc (Nat.le_refl _) _⟩
  case round =>
    obtain ⟨rfl, hh, HB⟩ := hrel
    have HH := hid hh
    clear hh
    go_wp2_with fail
    refine (firstNil _).mono ?_
    rintro e X1 ⟨⟨x, y, rfl⟩, hb1⟩
    have HB1 := hid (HB.out.trans (hb1.mono HB.out.size))
    have HH1 := hid ((hb1.block _ (heap_lt HH.out)).trans HH.out)
    clear hb1
    have q0 := cell_of_heap HH1.out 0
    have q1 := cell_of_heap HH1.out 1
    have q2 := cell_of_heap HH1.out 2
    simp only [List.getElem?_toArray, List.getElem?_cons_zero, List.getElem?_cons_succ] at q0 q1 q2
    have fq : ∀ j, X1.frozen? ⟨w.heap.size, j, none⟩ = false := fun j => frozen_of_heap HH1.out j
    go_wp2
    have h3 := set3h HH1.out (.int .i64 0) (.int .i64 0) (.slice none 0 0)
    have z0 := cell_of_heap h3 0
    have z1 := cell_of_heap h3 1
    have z2 := cell_of_heap h3 2
    simp only [List.getElem?_toArray, List.getElem?_cons_zero, List.getElem?_cons_succ] at z0 z1 z2
    refine bodyPost_ret (v := .tuple #[.agg #[.int .i64 0, .int .i64 0, .slice none 0 0], .int .i64 0]) ?_ rfl ⟨rfl, ?_⟩
    · simp [results, Tryz.results84, go_sem, z0, z1, z2]
    · exact ((HB1.out.setCell (p := ⟨w.heap.size, 0, none⟩) (Nat.le_refl _) _).setCell (p := ⟨w.heap.size, 1, none⟩) (Nat.le_refl _) _).setCell (p := ⟨w.heap.size, 2, none⟩) (Nat.le_refl _) _

end Go.Proofs.YtolififimldmlaaGreat
