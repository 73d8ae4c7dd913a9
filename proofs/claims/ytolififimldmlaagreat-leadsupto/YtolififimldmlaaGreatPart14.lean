import Derived.Test.YtolififimldmlaaGreatPart11
import Derived.Test.YtolififimldmlaaGreatPart01
set_option linter.unusedVariables false
set_option linter.unusedSimpArgs false
set_option maxRecDepth 100000
set_option maxHeartbeats 16000000
namespace Go.Proofs.YtolififimldmlaaGreat
section
open Go.RowKit
attribute [local go_sem ↓] Go.wp_at_zero Go.wp_at_succ
def Box (B:Nat) (v0 v1 v2 v3 v4 v5 v6 v7 v8 v9:Value) (x:World):Prop:=x.heap[B]?=some (.cells #[v0,v1,v2,v3,v4,v5,v6,v7,v8,v9] 30 (0,0))
theorem box_cells {B:Nat} {v0 v1 v2 v3 v4 v5 v6 v7 v8 v9:Value} {x:World} (h:Box B v0 v1 v2 v3 v4 v5 v6 v7 v8 v9 x) :
    x.cell? ⟨B,0,none⟩=some v0∧x.cell? ⟨B,1,none⟩=some v1∧x.cell? ⟨B,2,none⟩=some v2∧x.cell? ⟨B,3,none⟩=some v3∧x.cell? ⟨B,4,none⟩=some v4 ∧
    x.cell? ⟨B,5,none⟩=some v5∧x.cell? ⟨B,6,none⟩=some v6∧x.cell? ⟨B,7,none⟩=some v7∧x.cell? ⟨B,8,none⟩=some v8∧x.cell? ⟨B,9,none⟩=some v9 :=
  ⟨cell_of_heap h 0,cell_of_heap h 1,cell_of_heap h 2,cell_of_heap h 3,cell_of_heap h 4,cell_of_heap h 5,cell_of_heap h 6,cell_of_heap h 7,cell_of_heap h 8,cell_of_heap h 9⟩
theorem Box.below {B:Nat} {v0 v1 v2 v3 v4 v5 v6 v7 v8 v9:Value} {x y:World} (h:Box B v0 v1 v2 v3 v4 v5 v6 v7 v8 v9 x) (hb:Below x.heap.size x y):Box B v0 v1 v2 v3 v4 v5 v6 v7 v8 v9 y:=by
  unfold Box at *
  rw [hb.block _ (heap_lt h)];exact h
theorem ok_prog (f:Fr):f.ok=((fb f.kind != 0) && fitsG (bits .and .i64 (fb f.kind) 1) f.frm 4 && fitsG (bits .and .i64 (fb f.kind) 2) f.view 100 && fitsG (bits .and .i64 (fb f.kind) 4) f.place 20 && decide (leastG f.kind≤f.place) &&
      fitsG (bits .and .i64 (fb f.kind) 8) f.agreed 20 && fitsG (bits .and .i64 (fb f.kind) 16) f.last 100 && fitsLineG f (bits .and .i64 (fb f.kind) 32) && fitsLinesG f (bits .and .i64 (fb f.kind) 64)):=by
  obtain ⟨kind,frm,view,place,agreed,last,⟨c,t,s⟩,ls⟩:=f
  dsimp only
  by_cases h:1≤kind∧kind≤9
  · have h9:kind=1∨kind=2∨kind=3∨kind=4∨kind=5∨kind=6∨kind=7∨kind=8∨kind=9:=by omega
    clear h
    rcases h9 with rfl | rfl | rfl | rfl | rfl | rfl | rfl | rfl | rfl
    · have eF:fb 1=32:=rfl
      have l102:hasB 1 102=false:=rfl
      have m1:bits .and .i64 32 1=0:=rfl
      have l118:hasB 1 118=false:=rfl
      have m2:bits .and .i64 32 2=0:=rfl
      have l112:hasB 1 112=false:=rfl
      have m4:bits .and .i64 32 4=0:=rfl
      have l97:hasB 1 97=false:=rfl
      have m8:bits .and .i64 32 8=0:=rfl
      have l108:hasB 1 108=false:=rfl
      have m16:bits .and .i64 32 16=0:=rfl
      have l49:hasB 1 49=true:=rfl
      have m32:bits .and .i64 32 32=32:=rfl
      have l110:hasB 1 110=false:=rfl
      have m64:bits .and .i64 32 64=0:=rfl
      have lp:leastG 1=0:=rfl
      rw [eF]
      simp only [Fr.ok,fitsB,fitsG,fitsLineG,fitsLinesG,lp,l102,m1,l118,m2,l112,m4,l97,m8,l108,m16,l49,m32,l110,m64]
      rw [Bool.eq_iff_iff]
      simp [Ln.isZero]
      try omega
    · have eF:fb 2=47:=rfl
      have l102:hasB 2 102=true:=rfl
      have m1:bits .and .i64 47 1=1:=rfl
      have l118:hasB 2 118=true:=rfl
      have m2:bits .and .i64 47 2=2:=rfl
      have l112:hasB 2 112=true:=rfl
      have m4:bits .and .i64 47 4=4:=rfl
      have l97:hasB 2 97=true:=rfl
      have m8:bits .and .i64 47 8=8:=rfl
      have l108:hasB 2 108=false:=rfl
      have m16:bits .and .i64 47 16=0:=rfl
      have l49:hasB 2 49=true:=rfl
      have m32:bits .and .i64 47 32=32:=rfl
      have l110:hasB 2 110=false:=rfl
      have m64:bits .and .i64 47 64=0:=rfl
      have lp:leastG 2=1:=rfl
      rw [eF]
      simp only [Fr.ok,fitsB,fitsG,fitsLineG,fitsLinesG,lp,l102,m1,l118,m2,l112,m4,l97,m8,l108,m16,l49,m32,l110,m64]
      rw [Bool.eq_iff_iff]
      simp [Ln.isZero]
      try omega
    · have eF:fb 3=7:=rfl
      have l102:hasB 3 102=true:=rfl
      have m1:bits .and .i64 7 1=1:=rfl
      have l118:hasB 3 118=true:=rfl
      have m2:bits .and .i64 7 2=2:=rfl
      have l112:hasB 3 112=true:=rfl
      have m4:bits .and .i64 7 4=4:=rfl
      have l97:hasB 3 97=false:=rfl
      have m8:bits .and .i64 7 8=0:=rfl
      have l108:hasB 3 108=false:=rfl
      have m16:bits .and .i64 7 16=0:=rfl
      have l49:hasB 3 49=false:=rfl
      have m32:bits .and .i64 7 32=0:=rfl
      have l110:hasB 3 110=false:=rfl
      have m64:bits .and .i64 7 64=0:=rfl
      have lp:leastG 3=0:=rfl
      rw [eF]
      simp only [Fr.ok,fitsB,fitsG,fitsLineG,fitsLinesG,lp,l102,m1,l118,m2,l112,m4,l97,m8,l108,m16,l49,m32,l110,m64]
      rw [Bool.eq_iff_iff]
      simp [Ln.isZero]
      try omega
    · have eF:fb 4=11:=rfl
      have l102:hasB 4 102=true:=rfl
      have m1:bits .and .i64 11 1=1:=rfl
      have l118:hasB 4 118=true:=rfl
      have m2:bits .and .i64 11 2=2:=rfl
      have l112:hasB 4 112=false:=rfl
      have m4:bits .and .i64 11 4=0:=rfl
      have l97:hasB 4 97=true:=rfl
      have m8:bits .and .i64 11 8=8:=rfl
      have l108:hasB 4 108=false:=rfl
      have m16:bits .and .i64 11 16=0:=rfl
      have l49:hasB 4 49=false:=rfl
      have m32:bits .and .i64 11 32=0:=rfl
      have l110:hasB 4 110=false:=rfl
      have m64:bits .and .i64 11 64=0:=rfl
      have lp:leastG 4=0:=rfl
      rw [eF]
      simp only [Fr.ok,fitsB,fitsG,fitsLineG,fitsLinesG,lp,l102,m1,l118,m2,l112,m4,l97,m8,l108,m16,l49,m32,l110,m64]
      rw [Bool.eq_iff_iff]
      simp [Ln.isZero]
      try omega
    · have eF:fb 5=3:=rfl
      have l102:hasB 5 102=true:=rfl
      have m1:bits .and .i64 3 1=1:=rfl
      have l118:hasB 5 118=true:=rfl
      have m2:bits .and .i64 3 2=2:=rfl
      have l112:hasB 5 112=false:=rfl
      have m4:bits .and .i64 3 4=0:=rfl
      have l97:hasB 5 97=false:=rfl
      have m8:bits .and .i64 3 8=0:=rfl
      have l108:hasB 5 108=false:=rfl
      have m16:bits .and .i64 3 16=0:=rfl
      have l49:hasB 5 49=false:=rfl
      have m32:bits .and .i64 3 32=0:=rfl
      have l110:hasB 5 110=false:=rfl
      have m64:bits .and .i64 3 64=0:=rfl
      have lp:leastG 5=0:=rfl
      rw [eF]
      simp only [Fr.ok,fitsB,fitsG,fitsLineG,fitsLinesG,lp,l102,m1,l118,m2,l112,m4,l97,m8,l108,m16,l49,m32,l110,m64]
      rw [Bool.eq_iff_iff]
      simp [Ln.isZero]
      try omega
    · have eF:fb 6=91:=rfl
      have l102:hasB 6 102=true:=rfl
      have m1:bits .and .i64 91 1=1:=rfl
      have l118:hasB 6 118=true:=rfl
      have m2:bits .and .i64 91 2=2:=rfl
      have l112:hasB 6 112=false:=rfl
      have m4:bits .and .i64 91 4=0:=rfl
      have l97:hasB 6 97=true:=rfl
      have m8:bits .and .i64 91 8=8:=rfl
      have l108:hasB 6 108=true:=rfl
      have m16:bits .and .i64 91 16=16:=rfl
      have l49:hasB 6 49=false:=rfl
      have m32:bits .and .i64 91 32=0:=rfl
      have l110:hasB 6 110=true:=rfl
      have m64:bits .and .i64 91 64=64:=rfl
      have lp:leastG 6=0:=rfl
      rw [eF]
      simp only [Fr.ok,fitsB,fitsG,fitsLineG,fitsLinesG,lp,l102,m1,l118,m2,l112,m4,l97,m8,l108,m16,l49,m32,l110,m64]
      rw [Bool.eq_iff_iff]
      simp [Ln.isZero]
      try omega
    · have eF:fb 7=75:=rfl
      have l102:hasB 7 102=true:=rfl
      have m1:bits .and .i64 75 1=1:=rfl
      have l118:hasB 7 118=true:=rfl
      have m2:bits .and .i64 75 2=2:=rfl
      have l112:hasB 7 112=false:=rfl
      have m4:bits .and .i64 75 4=0:=rfl
      have l97:hasB 7 97=true:=rfl
      have m8:bits .and .i64 75 8=8:=rfl
      have l108:hasB 7 108=false:=rfl
      have m16:bits .and .i64 75 16=0:=rfl
      have l49:hasB 7 49=false:=rfl
      have m32:bits .and .i64 75 32=0:=rfl
      have l110:hasB 7 110=true:=rfl
      have m64:bits .and .i64 75 64=64:=rfl
      have lp:leastG 7=0:=rfl
      rw [eF]
      simp only [Fr.ok,fitsB,fitsG,fitsLineG,fitsLinesG,lp,l102,m1,l118,m2,l112,m4,l97,m8,l108,m16,l49,m32,l110,m64]
      rw [Bool.eq_iff_iff]
      simp [Ln.isZero]
      try omega
    · have eF:fb 8=3:=rfl
      have l102:hasB 8 102=true:=rfl
      have m1:bits .and .i64 3 1=1:=rfl
      have l118:hasB 8 118=true:=rfl
      have m2:bits .and .i64 3 2=2:=rfl
      have l112:hasB 8 112=false:=rfl
      have m4:bits .and .i64 3 4=0:=rfl
      have l97:hasB 8 97=false:=rfl
      have m8:bits .and .i64 3 8=0:=rfl
      have l108:hasB 8 108=false:=rfl
      have m16:bits .and .i64 3 16=0:=rfl
      have l49:hasB 8 49=false:=rfl
      have m32:bits .and .i64 3 32=0:=rfl
      have l110:hasB 8 110=false:=rfl
      have m64:bits .and .i64 3 64=0:=rfl
      have lp:leastG 8=0:=rfl
      rw [eF]
      simp only [Fr.ok,fitsB,fitsG,fitsLineG,fitsLinesG,lp,l102,m1,l118,m2,l112,m4,l97,m8,l108,m16,l49,m32,l110,m64]
      rw [Bool.eq_iff_iff]
      simp [Ln.isZero]
      try omega
    · have eF:fb 9=38:=rfl
      have l102:hasB 9 102=false:=rfl
      have m1:bits .and .i64 38 1=0:=rfl
      have l118:hasB 9 118=true:=rfl
      have m2:bits .and .i64 38 2=2:=rfl
      have l112:hasB 9 112=true:=rfl
      have m4:bits .and .i64 38 4=4:=rfl
      have l97:hasB 9 97=false:=rfl
      have m8:bits .and .i64 38 8=0:=rfl
      have l108:hasB 9 108=false:=rfl
      have m16:bits .and .i64 38 16=0:=rfl
      have l49:hasB 9 49=true:=rfl
      have m32:bits .and .i64 38 32=32:=rfl
      have l110:hasB 9 110=false:=rfl
      have m64:bits .and .i64 38 64=0:=rfl
      have lp:leastG 9=1:=rfl
      rw [eF]
      simp only [Fr.ok,fitsB,fitsG,fitsLineG,fitsLinesG,lp,l102,m1,l118,m2,l112,m4,l97,m8,l108,m16,l49,m32,l110,m64]
      rw [Bool.eq_iff_iff]
      simp [Ln.isZero]
      intro _
      constructor
      · rintro ⟨⟨⟨⟨⟨⟨h1,h2,h3⟩,h4,h5⟩,h6⟩,h7⟩,h8⟩,h9⟩
        exact ⟨⟨⟨⟨⟨⟨h1,h2,h3⟩,by omega,h5⟩,h4⟩,h6⟩,h7⟩,h9,h8⟩
      · rintro ⟨⟨⟨⟨⟨⟨h1,h2,h3⟩,_,h5⟩,h4⟩,h6⟩,h7⟩,h9,h8⟩
        exact ⟨⟨⟨⟨⟨⟨h1,h2,h3⟩,h4,h5⟩,h6⟩,h7⟩,h8⟩,h9⟩
  · have e:fb kind=0:=by unfold fb;repeat (rw [if_neg (by omega)])
    rw [e]
    rw [Bool.eq_iff_iff]
    constructor
    · intro h2;obtain ⟨h3,h4,_⟩:=Fr.ok_parts h2;exact absurd ⟨h3,h4⟩ h
    · intro h2;simp at h2
theorem right_go (f:Fr) (a:Option Addr) (cap:Nat) (w:World) (hl:LinesAt w a f.lines) (hn:f.lines.length≤100000000) (hcap:f.lines.length≤cap) :
    Calls Tryz.prog 68 #[f.val a cap] w fun e w'=>e=.returned (.bool f.ok)∧Below w.heap.size w w':=by
  obtain ⟨kind,frm,view,place,agreed,last,⟨c,t,s⟩,ls⟩:=f
  have HL:=hid hl
  dsimp only at HL hn hcap
  clear hl
  have HF:Hid (∀ x h,LinesAt x a ls→Calls Tryz.prog 116 #[(Fr.mk kind frm view place agreed last ⟨c,t,s⟩ ls).val a cap,.int .i64 h] x fun e w'=>e=.returned (.bool (fitsLinesG ⟨kind,frm,view,place,agreed,last,⟨c,t,s⟩,ls⟩ h))∧Below x.heap.size x w'):=fun x h hx=>fitsLines_go _ a cap h x hx hn hcap
  have HG:Hid (∀ x h,Calls Tryz.prog 115 #[(Fr.mk kind frm view place agreed last ⟨c,t,s⟩ ls).val a cap,.int .i64 h] x fun e w'=>e=.returned (.bool (fitsLineG ⟨kind,frm,view,place,agreed,last,⟨c,t,s⟩,ls⟩ h))∧Below x.heap.size x w'):=fun x h=>fitsLine_go _ a cap h x
  have HOK:Hid (Fr.ok ⟨kind,frm,view,place,agreed,last,⟨c,t,s⟩,ls⟩=((fb kind != 0) && fitsG (bits .and .i64 (fb kind) 1) frm 4 && fitsG (bits .and .i64 (fb kind) 2) view 100 && fitsG (bits .and .i64 (fb kind) 4) place 20 && decide (leastG kind≤place) &&
      fitsG (bits .and .i64 (fb kind) 8) agreed 20 && fitsG (bits .and .i64 (fb kind) 16) last 100 && fitsLineG ⟨kind,frm,view,place,agreed,last,⟨c,t,s⟩,ls⟩ (bits .and .i64 (fb kind) 32) && fitsLinesG ⟨kind,frm,view,place,agreed,last,⟨c,t,s⟩,ls⟩ (bits .and .i64 (fb kind) 64))):=ok_prog _
  unfold Fr.val sla at HF HG ⊢
  dsimp only at HF HG ⊢
  go_enter Tryz.func68,Tryz.ntmps68
  go_wp2_with fail
  refine (fieldsOf_go kind _).mono ?_
  rintro e w1 ⟨rfl,hw1⟩
  have HB:Hid (Below w.heap.size w w1):=by show Below _ _ _;rw [hw1];exact (Below.refl _ _).alloc (Nat.le_refl _) _
  have hS0:Box w.heap.size (.int .i64 kind) (.int .i64 frm) (.int .i64 view) (.int .i64 place) (.int .i64 agreed) (.int .i64 last) (.int .i64 c) (.int .i64 t) (.string ⟨s.toArray⟩) (.slice a ls.length cap) w1:=by rw [hw1];exact heap_alloc_new w _
  clear hw1
  generalize w.heap.size=B at hS0 ⊢
  generalize fb kind=F at HOK ⊢
  go_wp2
  refine wp_region_held_drew (S:=Box B (.int .i64 kind) (.int .i64 frm) (.int .i64 view) (.int .i64 place) (.int .i64 agreed) (.int .i64 last) (.int .i64 c) (.int .i64 t) (.string ⟨s.toArray⟩) (.slice a ls.length cap)) (by kernel_rfl) hS0 (fun hS=>?_)
  refine tH 0 hS ?_
  try simp only [lA,lB,lC,Act.put,lD,lE,lF]
  refine tH 1 hS ?_
  try simp only [lA,lB,lC,Act.put,lD,lE,lF]
  refine tH 2 hS ?_
  try simp only [lA,lB,lC,Act.put,lD,lE,lF]
  generalize (F != 0)=b0 at HOK ⊢
  cases b0
  · skip
    refine wpAnyH_falls (by kernel_rfl) (fun _ _ d _ _ h=>by cases d <;> exact h) [(3,10,false),(4,11,false),(5,12,false),(6,13,false),(7,14,false),(8,15,true),(9,16,true),(10,17,false),(11,18,false),(12,19,false),(13,20,false),(14,21,false),(15,22,true),(16,23,true),(17,24,false),(18,25,false),(19,26,false),(20,27,false),(21,28,false),(22,29,true),(23,30,true),(24,31,false),(25,32,false),(26,33,false),(27,34,false),(28,35,false),(29,36,false),(30,37,true),(31,38,true),(32,39,false),(33,40,false),(34,41,false),(35,42,false),(36,43,false),(37,44,true),(38,45,true),(39,46,false),(40,47,false),(41,48,false),(42,49,false),(43,50,false),(44,51,true),(45,52,true),(46,53,false),(47,54,false),(48,55,false),(49,56,false),(50,57,true),(51,58,true),(52,59,false),(53,60,false),(54,61,false),(55,62,false),(56,63,true),(57,2,true)] 0 _ _ _ _ hS (by kernel_rfl) (by rfl) ?_
    simp only [fallsAct,if_true,if_false,Bool.false_eq_true,Act.put,List.setIfInBounds_toArray,List.set_cons_zero,List.set_cons_succ]
    refine wpAnyH_done (by kernel_rfl) ?_ _
    go_wp2
    go_ret
    exact ⟨ret_bool (by rw [HOK.out];simp),HB.out.drew⟩
  · skip
    refine tH 3 hS ?_
    try simp only [lA,lB,lC,Act.put,lD,lE,lF]
    refine tH 4 hS ?_
    try simp only [lA,lB,lC,Act.put,lD,lE,lF]
    refine tH 5 hS ?_
    try simp only [lA,lB,lC,Act.put,lD,lE,lF]
    refine tH 6 hS ?_ (hy:=by (intro w hw;obtain ⟨s0,s1,s2,s3,s4,s5,s6,s7,s8,s9⟩:=box_cells hw;go_simp;try with_reducible rfl))
    try simp only [lA,lB,lC,Act.put,lD,lE,lF]
    refine wpAnyH_ready (rs:=[7]) (by kernel_rfl) (by simp) ?_
    refine AllReadyH.cons rfl (fun K hK=>?_) AllReadyH.nil
    go_simp
    refine (fits_go (bits .and .i64 F 1) frm 4 _).mono ?_
    rintro e w2 ⟨rfl,hw2⟩
    rw [hw2]
    clear hw2 w2
    generalize fitsG (bits .and .i64 F 1) frm 4=b1 at HOK ⊢
    refine hK.out _ _ hS (fun hS=>?_)
    clear hK K
    refine tH 8 hS ?_
    try simp only [lA,lB,lC,Act.put,lD,lE,lF]
    refine tH 9 hS ?_
    try simp only [lA,lB,lC,Act.put,lD,lE,lF]
    cases b1
    · skip
      refine wpAnyH_falls (by kernel_rfl) (fun _ _ d _ _ h=>by cases d <;> exact h) [(10,17,false),(11,18,false),(12,19,false),(13,20,false),(14,21,false),(15,22,true),(16,23,true),(17,24,false),(18,25,false),(19,26,false),(20,27,false),(21,28,false),(22,29,true),(23,30,true),(24,31,false),(25,32,false),(26,33,false),(27,34,false),(28,35,false),(29,36,false),(30,37,true),(31,38,true),(32,39,false),(33,40,false),(34,41,false),(35,42,false),(36,43,false),(37,44,true),(38,45,true),(39,46,false),(40,47,false),(41,48,false),(42,49,false),(43,50,false),(44,51,true),(45,52,true),(46,53,false),(47,54,false),(48,55,false),(49,56,false),(50,57,true),(51,58,true),(52,59,false),(53,60,false),(54,61,false),(55,62,false),(56,63,true),(57,2,true)] 0 _ _ _ _ hS (by kernel_rfl) (by rfl) ?_
      simp only [fallsAct,if_true,if_false,Bool.false_eq_true,Act.put,List.setIfInBounds_toArray,List.set_cons_zero,List.set_cons_succ]
      refine wpAnyH_done (by kernel_rfl) ?_ _
      go_wp2
      go_ret
      exact ⟨ret_bool (by rw [HOK.out];simp),HB.out.drew⟩
    · skip
      refine tH 10 hS ?_
      try simp only [lA,lB,lC,Act.put,lD,lE,lF]
      refine tH 11 hS ?_
      try simp only [lA,lB,lC,Act.put,lD,lE,lF]
      refine tH 12 hS ?_
      try simp only [lA,lB,lC,Act.put,lD,lE,lF]
      refine tH 13 hS ?_ (hy:=by (intro w hw;obtain ⟨s0,s1,s2,s3,s4,s5,s6,s7,s8,s9⟩:=box_cells hw;go_simp;try with_reducible rfl))
      try simp only [lA,lB,lC,Act.put,lD,lE,lF]
      refine wpAnyH_ready (rs:=[14]) (by kernel_rfl) (by simp) ?_
      refine AllReadyH.cons rfl (fun K hK=>?_) AllReadyH.nil
      go_simp
      refine (fits_go (bits .and .i64 F 2) view 100 _).mono ?_
      rintro e w2 ⟨rfl,hw2⟩
      rw [hw2]
      clear hw2 w2
      generalize fitsG (bits .and .i64 F 2) view 100=b2 at HOK ⊢
      refine hK.out _ _ hS (fun hS=>?_)
      clear hK K
      refine tH 15 hS ?_
      try simp only [lA,lB,lC,Act.put,lD,lE,lF]
      refine tH 16 hS ?_
      try simp only [lA,lB,lC,Act.put,lD,lE,lF]
      cases b2
      · skip
        refine wpAnyH_falls (by kernel_rfl) (fun _ _ d _ _ h=>by cases d <;> exact h) [(17,24,false),(18,25,false),(19,26,false),(20,27,false),(21,28,false),(22,29,true),(23,30,true),(24,31,false),(25,32,false),(26,33,false),(27,34,false),(28,35,false),(29,36,false),(30,37,true),(31,38,true),(32,39,false),(33,40,false),(34,41,false),(35,42,false),(36,43,false),(37,44,true),(38,45,true),(39,46,false),(40,47,false),(41,48,false),(42,49,false),(43,50,false),(44,51,true),(45,52,true),(46,53,false),(47,54,false),(48,55,false),(49,56,false),(50,57,true),(51,58,true),(52,59,false),(53,60,false),(54,61,false),(55,62,false),(56,63,true),(57,2,true)] 0 _ _ _ _ hS (by kernel_rfl) (by rfl) ?_
        simp only [fallsAct,if_true,if_false,Bool.false_eq_true,Act.put,List.setIfInBounds_toArray,List.set_cons_zero,List.set_cons_succ]
        refine wpAnyH_done (by kernel_rfl) ?_ _
        go_wp2
        go_ret
        exact ⟨ret_bool (by rw [HOK.out];simp),HB.out.drew⟩
      · skip
        refine tH 17 hS ?_
        try simp only [lA,lB,lC,Act.put,lD,lE,lF]
        refine tH 18 hS ?_
        try simp only [lA,lB,lC,Act.put,lD,lE,lF]
        refine tH 19 hS ?_
        try simp only [lA,lB,lC,Act.put,lD,lE,lF]
        refine tH 20 hS ?_ (hy:=by (intro w hw;obtain ⟨s0,s1,s2,s3,s4,s5,s6,s7,s8,s9⟩:=box_cells hw;go_simp;try with_reducible rfl))
        try simp only [lA,lB,lC,Act.put,lD,lE,lF]
        refine wpAnyH_ready (rs:=[21]) (by kernel_rfl) (by simp) ?_
        refine AllReadyH.cons rfl (fun K hK=>?_) AllReadyH.nil
        go_simp
        refine (fits_go (bits .and .i64 F 4) place 20 _).mono ?_
        rintro e w2 ⟨rfl,hw2⟩
        rw [hw2]
        clear hw2 w2
        generalize fitsG (bits .and .i64 F 4) place 20=b3 at HOK ⊢
        refine hK.out _ _ hS (fun hS=>?_)
        clear hK K
        refine tH 22 hS ?_
        try simp only [lA,lB,lC,Act.put,lD,lE,lF]
        refine tH 23 hS ?_
        try simp only [lA,lB,lC,Act.put,lD,lE,lF]
        cases b3
        · skip
          refine wpAnyH_falls (by kernel_rfl) (fun _ _ d _ _ h=>by cases d <;> exact h) [(24,31,false),(25,32,false),(26,33,false),(27,34,false),(28,35,false),(29,36,false),(30,37,true),(31,38,true),(32,39,false),(33,40,false),(34,41,false),(35,42,false),(36,43,false),(37,44,true),(38,45,true),(39,46,false),(40,47,false),(41,48,false),(42,49,false),(43,50,false),(44,51,true),(45,52,true),(46,53,false),(47,54,false),(48,55,false),(49,56,false),(50,57,true),(51,58,true),(52,59,false),(53,60,false),(54,61,false),(55,62,false),(56,63,true),(57,2,true)] 0 _ _ _ _ hS (by kernel_rfl) (by rfl) ?_
          simp only [fallsAct,if_true,if_false,Bool.false_eq_true,Act.put,List.setIfInBounds_toArray,List.set_cons_zero,List.set_cons_succ]
          refine wpAnyH_done (by kernel_rfl) ?_ _
          go_wp2
          go_ret
          exact ⟨ret_bool (by rw [HOK.out];simp),HB.out.drew⟩
        · skip
          refine tH 24 hS ?_
          try simp only [lA,lB,lC,Act.put,lD,lE,lF]
          refine tH 26 hS ?_
          try simp only [lA,lB,lC,Act.put,lD,lE,lF]
          refine tH 25 hS ?_ (hy:=by (intro w hw;obtain ⟨s0,s1,s2,s3,s4,s5,s6,s7,s8,s9⟩:=box_cells hw;go_simp;try with_reducible rfl))
          try simp only [lA,lB,lC,Act.put,lD,lE,lF]
          refine tH 27 hS ?_ (hy:=by (intro w hw;obtain ⟨s0,s1,s2,s3,s4,s5,s6,s7,s8,s9⟩:=box_cells hw;go_simp;try with_reducible rfl))
          try simp only [lA,lB,lC,Act.put,lD,lE,lF]
          refine wpAnyH_ready (rs:=[28]) (by kernel_rfl) (by simp) ?_
          refine AllReadyH.cons rfl (fun K hK=>?_) AllReadyH.nil
          go_simp
          refine (leastPlace_go kind _).mono ?_
          rintro e w2 ⟨rfl,hw2⟩
          rw [hw2]
          clear hw2 w2
          generalize leastG kind=G at HOK ⊢
          refine hK.out _ _ hS (fun hS=>?_)
          clear hK K
          refine tH 29 hS ?_
          try simp only [lA,lB,lC,Act.put,lD,lE,lF]
          generalize decide (G≤place)=b4 at HOK ⊢
          refine tH 30 hS ?_
          try simp only [lA,lB,lC,Act.put,lD,lE,lF]
          refine tH 31 hS ?_
          try simp only [lA,lB,lC,Act.put,lD,lE,lF]
          cases b4
          · skip
            refine wpAnyH_falls (by kernel_rfl) (fun _ _ d _ _ h=>by cases d <;> exact h) [(32,39,false),(33,40,false),(34,41,false),(35,42,false),(36,43,false),(37,44,true),(38,45,true),(39,46,false),(40,47,false),(41,48,false),(42,49,false),(43,50,false),(44,51,true),(45,52,true),(46,53,false),(47,54,false),(48,55,false),(49,56,false),(50,57,true),(51,58,true),(52,59,false),(53,60,false),(54,61,false),(55,62,false),(56,63,true),(57,2,true)] 0 _ _ _ _ hS (by kernel_rfl) (by rfl) ?_
            simp only [fallsAct,if_true,if_false,Bool.false_eq_true,Act.put,List.setIfInBounds_toArray,List.set_cons_zero,List.set_cons_succ]
            refine wpAnyH_done (by kernel_rfl) ?_ _
            go_wp2
            go_ret
            exact ⟨ret_bool (by rw [HOK.out];simp),HB.out.drew⟩
          · skip
            refine tH 32 hS ?_
            try simp only [lA,lB,lC,Act.put,lD,lE,lF]
            refine tH 33 hS ?_
            try simp only [lA,lB,lC,Act.put,lD,lE,lF]
            refine tH 34 hS ?_
            try simp only [lA,lB,lC,Act.put,lD,lE,lF]
            refine tH 35 hS ?_ (hy:=by (intro w hw;obtain ⟨s0,s1,s2,s3,s4,s5,s6,s7,s8,s9⟩:=box_cells hw;go_simp;try with_reducible rfl))
            try simp only [lA,lB,lC,Act.put,lD,lE,lF]
            refine wpAnyH_ready (rs:=[36]) (by kernel_rfl) (by simp) ?_
            refine AllReadyH.cons rfl (fun K hK=>?_) AllReadyH.nil
            go_simp
            refine (fits_go (bits .and .i64 F 8) agreed 20 _).mono ?_
            rintro e w2 ⟨rfl,hw2⟩
            rw [hw2]
            clear hw2 w2
            generalize fitsG (bits .and .i64 F 8) agreed 20=b5 at HOK ⊢
            refine hK.out _ _ hS (fun hS=>?_)
            clear hK K
            refine tH 37 hS ?_
            try simp only [lA,lB,lC,Act.put,lD,lE,lF]
            refine tH 38 hS ?_
            try simp only [lA,lB,lC,Act.put,lD,lE,lF]
            cases b5
            · skip
              refine wpAnyH_falls (by kernel_rfl) (fun _ _ d _ _ h=>by cases d <;> exact h) [(39,46,false),(40,47,false),(41,48,false),(42,49,false),(43,50,false),(44,51,true),(45,52,true),(46,53,false),(47,54,false),(48,55,false),(49,56,false),(50,57,true),(51,58,true),(52,59,false),(53,60,false),(54,61,false),(55,62,false),(56,63,true),(57,2,true)] 0 _ _ _ _ hS (by kernel_rfl) (by rfl) ?_
              simp only [fallsAct,if_true,if_false,Bool.false_eq_true,Act.put,List.setIfInBounds_toArray,List.set_cons_zero,List.set_cons_succ]
              refine wpAnyH_done (by kernel_rfl) ?_ _
              go_wp2
              go_ret
              exact ⟨ret_bool (by rw [HOK.out];simp),HB.out.drew⟩
            · skip
              refine tH 39 hS ?_
              try simp only [lA,lB,lC,Act.put,lD,lE,lF]
              refine tH 40 hS ?_
              try simp only [lA,lB,lC,Act.put,lD,lE,lF]
              refine tH 41 hS ?_
              try simp only [lA,lB,lC,Act.put,lD,lE,lF]
              refine tH 42 hS ?_ (hy:=by (intro w hw;obtain ⟨s0,s1,s2,s3,s4,s5,s6,s7,s8,s9⟩:=box_cells hw;go_simp;try with_reducible rfl))
              try simp only [lA,lB,lC,Act.put,lD,lE,lF]
              refine wpAnyH_ready (rs:=[43]) (by kernel_rfl) (by simp) ?_
              refine AllReadyH.cons rfl (fun K hK=>?_) AllReadyH.nil
              go_simp
              refine (fits_go (bits .and .i64 F 16) last 100 _).mono ?_
              rintro e w2 ⟨rfl,hw2⟩
              rw [hw2]
              clear hw2 w2
              generalize fitsG (bits .and .i64 F 16) last 100=b6 at HOK ⊢
              refine hK.out _ _ hS (fun hS=>?_)
              clear hK K
              refine tH 44 hS ?_
              try simp only [lA,lB,lC,Act.put,lD,lE,lF]
              refine tH 45 hS ?_
              try simp only [lA,lB,lC,Act.put,lD,lE,lF]
              cases b6
              · skip
                refine wpAnyH_falls (by kernel_rfl) (fun _ _ d _ _ h=>by cases d <;> exact h) [(46,53,false),(47,54,false),(48,55,false),(49,56,false),(50,57,true),(51,58,true),(52,59,false),(53,60,false),(54,61,false),(55,62,false),(56,63,true),(57,2,true)] 0 _ _ _ _ hS (by kernel_rfl) (by rfl) ?_
                simp only [fallsAct,if_true,if_false,Bool.false_eq_true,Act.put,List.setIfInBounds_toArray,List.set_cons_zero,List.set_cons_succ]
                refine wpAnyH_done (by kernel_rfl) ?_ _
                go_wp2
                go_ret
                exact ⟨ret_bool (by rw [HOK.out];simp),HB.out.drew⟩
              · skip
                refine tH 47 hS ?_
                try simp only [lA,lB,lC,Act.put,lD,lE,lF]
                refine tH 48 hS ?_
                try simp only [lA,lB,lC,Act.put,lD,lE,lF]
                refine tH 46 hS ?_ (hy:=by (intro w hw;obtain ⟨s0,s1,s2,s3,s4,s5,s6,s7,s8,s9⟩:=box_cells hw;go_simp;try with_reducible rfl))
                try simp only [lA,lB,lC,Act.put,lD,lE,lF]
                refine wpAnyH_ready (rs:=[49]) (by kernel_rfl) (by simp) ?_
                refine AllReadyH.cons rfl (fun K hK=>?_) AllReadyH.nil
                go_simp
                refine (HG.out _ (bits .and .i64 F 32)).mono ?_
                rintro e w2 ⟨rfl,hb2⟩
                have hS2:=Box.below hS hb2
                have HB2:=hid (HB.out.drew.trans (hb2.mono HB.out.size))
                clear hb2
                generalize fitsLineG _ _=b7 at HOK ⊢
                refine hK.out _ _ hS2 (fun hS=>?_)
                clear hK K hS2
                refine tH 50 hS ?_
                try simp only [lA,lB,lC,Act.put,lD,lE,lF]
                refine tH 51 hS ?_
                try simp only [lA,lB,lC,Act.put,lD,lE,lF]
                cases b7
                · skip
                  refine wpAnyH_falls (by kernel_rfl) (fun _ _ d _ _ h=>by cases d <;> exact h) [(52,59,false),(53,60,false),(54,61,false),(55,62,false),(56,63,true),(57,2,true)] 0 _ _ _ _ hS (by kernel_rfl) (by rfl) ?_
                  simp only [fallsAct,if_true,if_false,Bool.false_eq_true,Act.put,List.setIfInBounds_toArray,List.set_cons_zero,List.set_cons_succ]
                  refine wpAnyH_done (by kernel_rfl) ?_ _
                  go_wp2
                  go_ret
                  exact ⟨ret_bool (by rw [HOK.out];simp),HB2.out⟩
                · skip
                  refine tH 53 hS ?_
                  try simp only [lA,lB,lC,Act.put,lD,lE,lF]
                  refine tH 54 hS ?_
                  try simp only [lA,lB,lC,Act.put,lD,lE,lF]
                  refine tH 52 hS ?_ (hy:=by (intro w hw;obtain ⟨s0,s1,s2,s3,s4,s5,s6,s7,s8,s9⟩:=box_cells hw;go_simp;try with_reducible rfl))
                  try simp only [lA,lB,lC,Act.put,lD,lE,lF]
                  refine wpAnyH_ready (rs:=[55]) (by kernel_rfl) (by simp) ?_
                  refine AllReadyH.cons rfl (fun K hK=>?_) AllReadyH.nil
                  go_simp
                  refine (HF.out _ (bits .and .i64 F 64) (HL.out.below HB2.out)).mono ?_
                  rintro e w3 ⟨rfl,hb3⟩
                  have hS3:=Box.below hS hb3
                  have HB3:=hid (HB2.out.trans (hb3.mono HB2.out.size))
                  clear hb3
                  generalize fitsLinesG _ _=b8 at HOK ⊢
                  refine hK.out _ _ hS3 (fun hS=>?_)
                  clear hK K hS3
                  refine tH 56 hS ?_
                  try simp only [lA,lB,lC,Act.put,lD,lE,lF]
                  refine tH 57 hS ?_
                  try simp only [lA,lB,lC,Act.put,lD,lE,lF]
                  refine wpAnyH_done (by kernel_rfl) ?_ _
                  go_wp2
                  go_ret
                  exact ⟨ret_bool (by rw [HOK.out];simp),HB3.out⟩
end
end Go.Proofs.YtolififimldmlaaGreat
