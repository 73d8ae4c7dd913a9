import Derived.Great.BuildSlice
import Derived.Test.YtolififimldmlaaGreatBase
set_option linter.unusedVariables false
set_option linter.unusedSimpArgs false
namespace Go.Proofs.YtolififimldmlaaGreat

theorem fold_set (l : List Value) : ∀ (off j : Nat) (pre rest : List Value), pre.length = off + j → l.length ≤ rest.length →
    (l.zipIdx j).foldl (fun (cs : Array Value) p => cs.setIfInBounds (off + p.2) p.1) (pre ++ rest).toArray = (pre ++ l ++ rest.drop l.length).toArray := by
  induction l with
  | nil => intro off j pre rest _ _; simp
  | cons a l ih =>
    intro off j pre rest h1 h2
    cases rest with
    | nil => simp at h2
    | cons r rest =>
      rw [List.zipIdx_cons, List.foldl_cons]
      have e : (pre ++ r :: rest).toArray.setIfInBounds (off + j) a = ((pre ++ [a]) ++ rest).toArray := by
        rw [List.setIfInBounds_toArray, ← h1, List.set_append_right _ _ (Nat.le_refl _), Nat.sub_self, List.set_cons_zero, List.append_assoc]; rfl
      show List.foldl _ ((pre ++ r :: rest).toArray.setIfInBounds (off + j) a) _ = _
      rw [e, ih off (j + 1) (pre ++ [a]) rest (by simp; omega) (by simpa using h2)]
      simp

theorem fill_rows (size : Nat) (cs : List (Array Value)) : ∀ (k : Nat) (pre rest : List Value), pre.length = k * size → rest.length = cs.length * size → (∀ c ∈ cs, c.size = size) →
    Instr.fill (fun i => some (i * size, size)) (pre ++ rest).toArray ((cs.zipIdx k).map fun x => (x.2, Value.agg x.1)) = some (pre ++ cs.flatMap (·.toList)).toArray := by
  induction cs with
  | nil => intro k pre rest h1 h2 _; simp at h2; subst h2; simp [Instr.fill]
  | cons c cs ih =>
    intro k pre rest h1 h2 h3
    have hc : c.size = size := h3 c (by simp)
    rw [List.length_cons, Nat.succ_mul] at h2
    rw [List.zipIdx_cons, List.map_cons]
    unfold Instr.fill
    have hv : (Value.agg c).cells = c := rfl
    simp only [hv, hc]
    rw [if_neg (by simp; omega)]
    have e : c.zipIdx.foldl (fun (cs : Array Value) (x : Value × Nat) => cs.setIfInBounds (k * size + x.2) x.1) (pre ++ rest).toArray = (pre ++ c.toList ++ rest.drop size).toArray := by
      rw [← Array.foldl_toList, Array.toList_zipIdx, fold_set c.toList (k * size) 0 pre rest (by omega) (by simp; omega)]
      simp [hc]
    have := ih (k + 1) (pre ++ c.toList) (rest.drop size) (by simp [hc, h1, Nat.succ_mul]) (by simp; omega) (fun c' h' => h3 c' (by simp [h']))
    rw [List.flatMap_cons, ← List.append_assoc, ← this, ← e]

end Go.Proofs.YtolififimldmlaaGreat
