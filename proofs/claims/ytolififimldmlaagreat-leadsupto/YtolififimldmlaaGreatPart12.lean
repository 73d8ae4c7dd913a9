import Derived.Test.YtolififimldmlaaGreatPart09
import Derived.Test.YtolififimldmlaaGreatPart05
set_option linter.unusedVariables false
set_option linter.unusedSimpArgs false
set_option maxRecDepth 100000
set_option maxHeartbeats 16000000
namespace Go.Proofs.YtolififimldmlaaGreat
section
open Go.RowKit
attribute [local go_sem ↓] Go.wp_at_zero Go.wp_at_succ
structure OwnBytes (w w':World) (g:Option Nat) (c:Nat) (l:List UInt8):Prop where
  at_:BytesAt w' g l
  own:OwnRow w' 5 1 g l.length c
  new:∀ k,g=some k→w.heap.size≤k
theorem OwnBytes.below {w x y:World} {g:Option Nat} {c:Nat} {l:List UInt8} (h:OwnBytes w x g c l) (hb:Below x.heap.size x y):OwnBytes w y g c l :=
  ⟨fun j hj=>by obtain ⟨k,e,hc⟩:=h.at_ j hj;exact ⟨k,e,(hb.cell (World.block_lt_of_cell? _ _ hc)).trans hc⟩,h.own.touch (T:=fun _=>False) (Touch.of_belowAll hb _) (fun _ _ e=>e),h.new⟩
theorem conv_bytes (g:Option Nat) (c:Nat) (l:List UInt8) (w:World) (h:BytesAt w g l) :
    (convert 31 9 (.slice (g.map fun k=>⟨k,0,none⟩) l.length c)).run Tryz.prog w=.ok (.string ⟨l.toArray⟩) w:=by
  cases g with
  | none =>
    have:l=[]:=by
      cases l with
      | nil=>rfl
      | cons x xs=>obtain ⟨k,e,_⟩:=h 0 (by simp);cases e
    subst this
    exact run_convert_bytes_nil w 31 5 Tryz.underlying31 Tryz.underlying5 0 c 9 Tryz.underlying9
  | some k =>
    have:=convN k l.length c (l.map fun b=>(b.toNat:Int)) w (by simp) (fun i hi=>by
      obtain ⟨k',e,hc⟩:=h i hi
      cases e
      rw [hc];simp [List.getD,hi])
    rw [List.map_map,show (fun n:Int=>UInt8.ofNat n.toNat) ∘ (fun b:UInt8=>(b.toNat:Int))=id from by funext b;simp,List.map_id] at this
    exact this
def lnCells (ls:List Ln):List Value:=ls.flatMap Ln.cells
theorem lnCells_len (ls:List Ln):(lnCells ls).length=ls.length * 3:=by
  induction ls with
  | nil=>rfl
  | cons a l ih =>
    unfold lnCells at *
    rw [List.flatMap_cons,List.length_append,ih,List.length_cons]
    simp only [Ln.cells,List.length_cons,List.length_nil];omega
theorem lnCells_at (ls:List Ln):∀ (j r:Nat) (hj:j < ls.length),r < 3→(lnCells ls)[j * 3+r]?=(Ln.cells ls[j])[r]?:=by
  induction ls with
  | nil=>intro j r hj;exact absurd hj (by simp)
  | cons a l ih =>
    intro j r hj hr
    unfold lnCells at *
    rw [List.flatMap_cons]
    cases j with
    | zero=>rw [List.getElem?_append_left (by simp [Ln.cells];omega)];simp
    | succ j =>
      rw [List.getElem?_append_right (by simp [Ln.cells];omega)]
      have:=ih j r (by simp at hj;omega) hr
      rw [show (j+1) * 3+r - (Ln.cells a).length=j * 3+r from by simp [Ln.cells];omega,this]
      simp
theorem lnCells_one (ls:List Ln):∀ u ∈ lnCells ls,u.oneCell'=true:=by
  intro u hu
  unfold lnCells at hu
  obtain ⟨l,_,h⟩:=List.mem_flatMap.1 hu
  simp [Ln.cells] at h
  rcases h with rfl | rfl | rfl <;> rfl
theorem lines_src (a:Option Addr) (cap:Nat) (ls:List Ln) (w:World) (h:LinesAt w a ls) :
    Src Tryz.prog 3 28 (.slice a ls.length cap) ls.length (lnCells ls) w:=by
  cases a with
  | none =>
    have:ls=[]:=by
      cases ls with
      | nil=>rfl
      | cons x xs=>obtain ⟨g,o,e,_⟩:=h 0 (by simp);cases e
    subst this
    exact Src.ofNil w Tryz.underlying28 cap
  | some p =>
    refine Src.ofSlice w Tryz.underlying28 p ls.length cap _ (lnCells_len ls) (fun j u hu=>?_) (lnCells_one ls)
    have hl:=lnCells_len ls
    have hj:j < ls.length * 3:=by
      rcases Nat.lt_or_ge j (ls.length * 3) with h | h
      · exact h
      · rw [List.getElem?_eq_none (by omega)] at hu;cases hu
    obtain ⟨g,o,e,h0,h1,h2⟩:=h (j / 3) (by omega)
    cases e
    rw [addr_add]
    have ej:j=j / 3 * 3+j % 3:=by omega
    rw [ej] at hu ⊢
    rw [lnCells_at ls (j / 3) (j % 3) (by omega) (by omega)] at hu
    have h3:j % 3=0∨j % 3=1∨j % 3=2:=by omega
    rcases h3 with e | e | e
    · rw [e] at hu ⊢;cases hu;exact h0
    · rw [e] at hu ⊢;cases hu;rw [← Nat.add_assoc];exact h1
    · rw [e] at hu ⊢;cases hu;rw [← Nat.add_assoc];exact h2
end
end Go.Proofs.YtolififimldmlaaGreat
