import Derived.RegionTactic
import Derived.Deep.RegionHeld
set_option linter.unusedVariables false
set_option linter.unusedSimpArgs false
namespace Go.Proofs.YtolififimldmlaaGreat

/-- What an operation yields where the tests ahead of it have said no: nothing, if its guard says no; 'no' again, if it hands a no on. -/
def fallOf (ops : Array Oper) (o : Oper) (a : Act) : Option Value :=
  if Region.wanted o (yielded ops a.tmps) then
    match o.op with
    | .move (.tmp t) => match a.tmps[t]? with
      | some (.bool false) => some (.bool false)
      | _ => none
    | .assign (.tmp t) => match a.tmps[t]? with
      | some (.bool false) => some (.bool false)
      | _ => none
    | .pick (.tmp t) _ (.const (.bool false)) => match a.tmps[t]? with
      | some (.bool false) => some (.bool false)
      | _ => none
    | _ => none
  else some undef

/-- Operations behind a test that said no, one behind the other (number, slot, is it a no that is handed on?): may they be passed by? -/
def fallsOk (md : Region.Mode) (ops : Array Oper) : List (Nat × Nat × Bool) → Array Bool → Act → Bool
  | [], _, _ => true
  | (i, d, b) :: is, listed, a =>
    match ops[i]? with
    | none => false
    | some o => Region.free md ops listed i && (Region.ready md ops listed).contains i && (match o.dst with | some d' => d' == d | none => false) &&
      (match fallOf ops o a with | some (.bool false) => b | some _ => !b && !Region.wanted o (yielded ops a.tmps) | none => false) &&
      fallsOk md ops is (listed.setIfInBounds i true) (a.put (some d) (if b then .bool false else undef))

/-- What is left then. -/
def fallsAct : List (Nat × Nat × Bool) → Act → Act
  | [], a => a
  | (_, d, b) :: is, a => fallsAct is (a.put (some d) (if b then .bool false else undef))
def fallsList : List (Nat × Nat × Bool) → Array Bool → Array Bool
  | [], l => l
  | (i, _, _) :: is, l => fallsList is (l.setIfInBounds i true)

theorem fall_yields {P : Program} {ops : Array Oper} {o : Oper} {a : Act} {v : Value} (h : fallOf ops o a = some v) : Yields P ops o v a := by
  unfold fallOf at h
  split at h
  · rename_i hw
    have key : ∀ t : Tmp, a.tmps[t]? = some (.bool false) → a.eval (.tmp t) = .bool false := fun t e => by simp [Act.eval, e]
    refine Or.inl ⟨hw, fun w => ?_⟩
    split at h
    · rename_i t ho
      split at h
      · rename_i e; cases h; simp [execOp, ho, key t e]
      · cases h
    · rename_i t ho
      split at h
      · rename_i e; cases h; simp [execOp, ho, key t e]
      · cases h
    · rename_i t x ho
      split at h
      · rename_i e; cases h; simp [execOp, ho, Act.eval, e, asBool]
      · cases h
    · cases h
  · rename_i hw
    cases h
    exact Or.inr ⟨by simpa using hw, rfl⟩

theorem wpAny_falls {P : Program} {md : Region.Mode} {ops : Array Oper} {Q : Exit → Act → World → Prop} (hs : Region.noSelect ops = true) (hQ : ∀ c a d v w, Q (.panic c) (a.put d v) w → Q (.panic c) a w) :
    ∀ (is : List (Nat × Nat × Bool)) (fuel F : Nat) (listed : Array Bool) (a : Act) (w : World), fallsOk md ops is listed a = true → F = is.length + fuel → wpAny P md ops Q fuel (fallsList is listed) (fallsAct is a) w → wpAny P md ops Q F listed a w := by
  intro is
  induction is with
  | nil => intro fuel F listed a w _ hF h; rw [hF, List.length_nil, Nat.zero_add]; exact h
  | cons x is ih =>
    obtain ⟨i, d, b⟩ := x
    intro fuel F listed a w hk hF h
    unfold fallsOk at hk
    cases hi : ops[i]? with
    | none => rw [hi] at hk; cases hk
    | some o =>
      rw [hi] at hk
      simp only [Bool.and_eq_true] at hk
      obtain ⟨⟨⟨⟨h1, h2⟩, h3⟩, h4⟩, h5⟩ := hk
      have e : F = is.length + fuel + 1 := by rw [hF, List.length_cons]; omega
      have hd : o.dst = some d := by
        split at h3
        · rename_i d' e; rw [e]; simpa using h3
        · cases h3
      have hy : Yields P ops o (if b then .bool false else undef) a := by
        split at h4
        · rename_i e; rw [h4, if_pos rfl]; exact fall_yields e
        · rename_i v e _
          simp only [Bool.and_eq_true, Bool.not_eq_true'] at h4
          rw [h4.1]
          exact Or.inr ⟨h4.2, rfl⟩
        · cases h4
      rw [e]
      exact wpAny_take hi hs h1 h2 (fun c a w => hQ c a _ _ w) hy (by rw [hd]; exact ih fuel _ _ _ w h5 rfl h)

theorem wpAnyH_falls {P : Program} {md : Region.Mode} {ops : Array Oper} {Q : Exit → Act → World → Prop} {S : World → Prop} (hs : Region.noSelect ops = true) (hQ : ∀ c a d v w, Q (.panic c) (a.put d v) w → Q (.panic c) a w) :
    ∀ (is : List (Nat × Nat × Bool)) (fuel F : Nat) (listed : Array Bool) (a : Act) (w : World), S w → fallsOk md ops is listed a = true → F = is.length + fuel → wpAnyH P md ops Q S fuel (fallsList is listed) (fallsAct is a) w → wpAnyH P md ops Q S F listed a w := by
  intro is
  induction is with
  | nil => intro fuel F listed a w _ _ hF h; rw [hF, List.length_nil, Nat.zero_add]; exact h
  | cons x is ih =>
    obtain ⟨i, d, b⟩ := x
    intro fuel F listed a w hS hk hF h
    unfold fallsOk at hk
    cases hi : ops[i]? with
    | none => rw [hi] at hk; cases hk
    | some o =>
      rw [hi] at hk
      simp only [Bool.and_eq_true] at hk
      obtain ⟨⟨⟨⟨h1, h2⟩, h3⟩, h4⟩, h5⟩ := hk
      have e : F = is.length + fuel + 1 := by rw [hF, List.length_cons]; omega
      have hd : o.dst = some d := by
        split at h3
        · rename_i d' e; rw [e]; simpa using h3
        · cases h3
      have hy : Yields P ops o (if b then .bool false else undef) a := by
        split at h4
        · rename_i e; rw [h4, if_pos rfl]; exact fall_yields e
        · rename_i v e _
          simp only [Bool.and_eq_true, Bool.not_eq_true'] at h4
          rw [h4.1]
          exact Or.inr ⟨h4.2, rfl⟩
        · cases h4
      rw [e]
      exact wpAnyH_take hi hs h1 h2 (fun c a w => hQ c a _ _ w) hy.yieldsIf hS (by rw [hd]; exact ih fuel _ _ _ w hS h5 rfl h)

end Go.Proofs.YtolififimldmlaaGreat
