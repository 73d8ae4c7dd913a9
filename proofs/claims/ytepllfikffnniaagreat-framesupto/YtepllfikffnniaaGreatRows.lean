/-
  No cell of these rows narrows 'for every input' (looked for: loops, veiled, ifaces, maps, wideKeys, modest, calm, conditions, laid).
  DERIVED. THE GIVEN ROWS OF THIS SEAT. 7 by the template 'for every input the law returns true; each argument reads behind the call as it read before'; 0 by the template 'total and deterministic' (their statements: YtepllfikffnniaaGreatTotals.lean).
  GIVEN WITH THE SEED: the statements are not yours to turn. If you find one false, say at which input.
  Laid BY PROGRAM, IN A SANDBOX (cutbox-rows.mjs): the forced cells as the released guide's own fill.sh prints them over the translation 7c5491fbb0517f80… (all of the seat's roots in one cut). By AI agents, Wed Nov 11 2026. No macro, syntax, notation, axiom, sorry.
-/
import Derived.Test.YtepllfikffnniaaGreatChecked
import GoSem.Claim
import GoSem.ClaimJoined
import GoSem.ClaimMapViews
import Derived.JoinedTies
import Derived.KernelRfl
namespace Go.Proofs.YtepllfikffnniaaGreat
/- THE CELL 'sum', in the pinned program and in every row, IS THE sha256 OF THE DUMP (.gsa) THAT YtepllfikffnniaaGreatProg.lean LOADS. Nothing in Lean hashes anything: it is a label: what it is worth is what the hold of that sum in a sandbox is worth. -/
noncomputable def Tryz.pinned : Pinned := { name := "ytepllfikffnniaagreat", sum := "7c5491fbb0517f80dd42ace8d45db4a4037a624b378e2d3b5dd1dfc8d168e1c9", checked := Tryz.checked }
namespace Rows
def none {H : Type} : Left H := { results := [], args := [] }

/-- 'parleylaw.Frames': WHATEVER THE INPUT: true; the input reads as it did. -/
def framesSpec : ChangeSpec := { name := "frames", fn := fun _ => fun
  | [d] => { results := [.lit (.bool true)], args := [d] }
  | _ => none }
def framesRow : OpenClaim := { program := "ytepllfikffnniaagreat", sum := "7c5491fbb0517f80dd42ace8d45db4a4037a624b378e2d3b5dd1dfc8d168e1c9", func := "parley/parleylaw.Frames", spec := "frames", unfollowed := true, recurses := true, apart := false }
def FramesSaid : Prop := framesRow.holds Tryz.pinned (OpenSpec.ofChange framesSpec)

/-- ITS FALSE NEIGHBOUR: 'it returns false'. Refute it at one input. -/
def framesWrong : ChangeSpec := { name := "frames", fn := fun _ => fun
  | [d] => { results := [.lit (.bool false)], args := [d] }
  | _ => none }
def FramesWrongFalsely : Prop := framesRow.holds Tryz.pinned (OpenSpec.ofChange framesWrong)

/-- 'parleylaw.Opens': WHATEVER THE INPUT: true; the input reads as it did. -/
def opensSpec : ChangeSpec := { name := "opens", fn := fun _ => fun
  | [d] => { results := [.lit (.bool true)], args := [d] }
  | _ => none }
def opensRow : OpenClaim := { program := "ytepllfikffnniaagreat", sum := "7c5491fbb0517f80dd42ace8d45db4a4037a624b378e2d3b5dd1dfc8d168e1c9", func := "parley/parleylaw.Opens", spec := "opens", unfollowed := true, recurses := true, apart := false }
def OpensSaid : Prop := opensRow.holds Tryz.pinned (OpenSpec.ofChange opensSpec)

/-- ITS FALSE NEIGHBOUR: 'it returns false'. Refute it at one input. -/
def opensWrong : ChangeSpec := { name := "opens", fn := fun _ => fun
  | [d] => { results := [.lit (.bool false)], args := [d] }
  | _ => none }
def OpensWrongFalsely : Prop := opensRow.holds Tryz.pinned (OpenSpec.ofChange opensWrong)

/-- 'parleylaw.Leads': WHATEVER THE INPUT: true; the input reads as it did. -/
def leadsSpec : ChangeSpec := { name := "leads", fn := fun _ => fun
  | [d] => { results := [.lit (.bool true)], args := [d] }
  | _ => none }
def leadsRow : OpenClaim := { program := "ytepllfikffnniaagreat", sum := "7c5491fbb0517f80dd42ace8d45db4a4037a624b378e2d3b5dd1dfc8d168e1c9", func := "parley/parleylaw.Leads", spec := "leads", unfollowed := true, recurses := true, apart := false }
def LeadsSaid : Prop := leadsRow.holds Tryz.pinned (OpenSpec.ofChange leadsSpec)

/-- ITS FALSE NEIGHBOUR: 'it returns false'. Refute it at one input. -/
def leadsWrong : ChangeSpec := { name := "leads", fn := fun _ => fun
  | [d] => { results := [.lit (.bool false)], args := [d] }
  | _ => none }
def LeadsWrongFalsely : Prop := leadsRow.holds Tryz.pinned (OpenSpec.ofChange leadsWrong)

/-- 'parleykeep.Wire': WHATEVER THE INPUT: true; the input reads as it did. -/
def wireSpec : ChangeSpec := { name := "wire", fn := fun _ => fun
  | [d1, d2] => { results := [.lit (.bool true)], args := [d1, d2] }
  | _ => none }
def wireRow : OpenClaim := { program := "ytepllfikffnniaagreat", sum := "7c5491fbb0517f80dd42ace8d45db4a4037a624b378e2d3b5dd1dfc8d168e1c9", func := "parley/parleykeep.Wire", spec := "wire", unfollowed := true, recurses := true, apart := false }
def WireSaid : Prop := wireRow.holds Tryz.pinned (OpenSpec.ofChange wireSpec)

/-- ITS FALSE NEIGHBOUR: 'it returns false'. Refute it at one input. -/
def wireWrong : ChangeSpec := { name := "wire", fn := fun _ => fun
  | [d1, d2] => { results := [.lit (.bool false)], args := [d1, d2] }
  | _ => none }
def WireWrongFalsely : Prop := wireRow.holds Tryz.pinned (OpenSpec.ofChange wireWrong)

/-- 'parleykeep.Safe': WHATEVER THE INPUT: true; the input reads as it did. -/
def safeSpec : ChangeSpec := { name := "safe", fn := fun _ => fun
  | [d1, d2, d3] => { results := [.lit (.bool true)], args := [d1, d2, d3] }
  | _ => none }
def safeRow : OpenClaim := { program := "ytepllfikffnniaagreat", sum := "7c5491fbb0517f80dd42ace8d45db4a4037a624b378e2d3b5dd1dfc8d168e1c9", func := "parley/parleykeep.Safe", spec := "safe", unfollowed := true, recurses := true, apart := false }
def SafeSaid : Prop := safeRow.holds Tryz.pinned (OpenSpec.ofChange safeSpec)

/-- ITS FALSE NEIGHBOUR: 'it returns false'. Refute it at one input. -/
def safeWrong : ChangeSpec := { name := "safe", fn := fun _ => fun
  | [d1, d2, d3] => { results := [.lit (.bool false)], args := [d1, d2, d3] }
  | _ => none }
def SafeWrongFalsely : Prop := safeRow.holds Tryz.pinned (OpenSpec.ofChange safeWrong)

/-- 'parleykeep.Comes': WHATEVER THE INPUT: true; the input reads as it did. -/
def comesSpec : ChangeSpec := { name := "comes", fn := fun _ => fun
  | [d1, d2, d3] => { results := [.lit (.bool true)], args := [d1, d2, d3] }
  | _ => none }
def comesRow : OpenClaim := { program := "ytepllfikffnniaagreat", sum := "7c5491fbb0517f80dd42ace8d45db4a4037a624b378e2d3b5dd1dfc8d168e1c9", func := "parley/parleykeep.Comes", spec := "comes", unfollowed := true, recurses := true, apart := false }
def ComesSaid : Prop := comesRow.holds Tryz.pinned (OpenSpec.ofChange comesSpec)

/-- ITS FALSE NEIGHBOUR: 'it returns false'. Refute it at one input. -/
def comesWrong : ChangeSpec := { name := "comes", fn := fun _ => fun
  | [d1, d2, d3] => { results := [.lit (.bool false)], args := [d1, d2, d3] }
  | _ => none }
def ComesWrongFalsely : Prop := comesRow.holds Tryz.pinned (OpenSpec.ofChange comesWrong)

/-- 'parleykeep.Any': WHATEVER THE INPUT: true; the input reads as it did. -/
def anySpec : ChangeSpec := { name := "any", fn := fun _ => fun
  | [d1, d2, d3, d4] => { results := [.lit (.bool true)], args := [d1, d2, d3, d4] }
  | _ => none }
def anyRow : OpenClaim := { program := "ytepllfikffnniaagreat", sum := "7c5491fbb0517f80dd42ace8d45db4a4037a624b378e2d3b5dd1dfc8d168e1c9", func := "parley/parleykeep.Any", spec := "any", unfollowed := true, recurses := true, apart := false }
def AnySaid : Prop := anyRow.holds Tryz.pinned (OpenSpec.ofChange anySpec)

/-- ITS FALSE NEIGHBOUR: 'it returns false'. Refute it at one input. -/
def anyWrong : ChangeSpec := { name := "any", fn := fun _ => fun
  | [d1, d2, d3, d4] => { results := [.lit (.bool false)], args := [d1, d2, d3, d4] }
  | _ => none }
def AnyWrongFalsely : Prop := anyRow.holds Tryz.pinned (OpenSpec.ofChange anyWrong)

/- THE SECOND FORM. 'bulk': how many values and letters a reading holds, each counted each time it is reached (what is shared counts as often as it is met; a slice's spare places count too). A statement '..UptoSaid' is the law's where the arguments, and the package variables that the reading takes, are together of bulk at most 1048576: NARROWER than '..Said'. Prove '..Said' where nothing that the law and all that it calls make is longer than what came in: it says more and counts as full. Else prove '..UptoSaid'. A law counts once. -/
mutual
def uptoBulk {H : Type} : DataW H → Nat
  | .lit (.string bytes) => bytes.length + 1
  | .lit _ => 1
  | .nil => 1
  | .ptr d => uptoBulk d + 1
  | .slice elems spare => uptoBulkAll elems + uptoBulkAll spare + 1
  | .agg parts => uptoBulkAll parts + 1
  | .iface _ d => uptoBulk d + 1
  | .map entries => uptoBulkEntries entries + 1
  | .held _ => 1
def uptoBulkAll {H : Type} : List (DataW H) → Nat
  | [] => 0
  | d :: r => uptoBulk d + uptoBulkAll r
def uptoBulkEntries {H : Type} : List (Lit × DataW H) → Nat
  | [] => 0
  | x :: r => uptoBulkEntry x + uptoBulkEntries r
def uptoBulkEntry {H : Type} : Lit × DataW H → Nat
  | (.string bytes, d) => bytes.length + uptoBulk d + 1
  | (_, d) => uptoBulk d + 1
 end
def uptoSmall : (H : Type) → List (DataW H) → Bool := fun _ ds => decide (uptoBulkAll ds ≤ 1048576)
def OpenSpec.upto (s : _root_.Go.ChangeSpec) : _root_.Go.OpenSpec := { _root_.Go.OpenSpec.ofChange s with cond := some uptoSmall }

/-- 'parleylaw.Frames', WHERE WHAT IT READS IS OF BULK AT MOST 1048576: true; the input reads as it did. -/
def framesUptoRow : OpenClaim := { program := "ytepllfikffnniaagreat", sum := "7c5491fbb0517f80dd42ace8d45db4a4037a624b378e2d3b5dd1dfc8d168e1c9", func := "parley/parleylaw.Frames", spec := "frames", unfollowed := true, recurses := true, apart := false, narrowed := true }
def FramesUptoSaid : Prop := framesUptoRow.holds Tryz.pinned (OpenSpec.upto framesSpec)

/-- 'parleylaw.Opens', WHERE WHAT IT READS IS OF BULK AT MOST 1048576: true; the input reads as it did. -/
def opensUptoRow : OpenClaim := { program := "ytepllfikffnniaagreat", sum := "7c5491fbb0517f80dd42ace8d45db4a4037a624b378e2d3b5dd1dfc8d168e1c9", func := "parley/parleylaw.Opens", spec := "opens", unfollowed := true, recurses := true, apart := false, narrowed := true }
def OpensUptoSaid : Prop := opensUptoRow.holds Tryz.pinned (OpenSpec.upto opensSpec)

/-- 'parleylaw.Leads', WHERE WHAT IT READS IS OF BULK AT MOST 1048576: true; the input reads as it did. -/
def leadsUptoRow : OpenClaim := { program := "ytepllfikffnniaagreat", sum := "7c5491fbb0517f80dd42ace8d45db4a4037a624b378e2d3b5dd1dfc8d168e1c9", func := "parley/parleylaw.Leads", spec := "leads", unfollowed := true, recurses := true, apart := false, narrowed := true }
def LeadsUptoSaid : Prop := leadsUptoRow.holds Tryz.pinned (OpenSpec.upto leadsSpec)

/-- 'parleykeep.Wire', WHERE WHAT IT READS IS OF BULK AT MOST 1048576: true; the input reads as it did. -/
def wireUptoRow : OpenClaim := { program := "ytepllfikffnniaagreat", sum := "7c5491fbb0517f80dd42ace8d45db4a4037a624b378e2d3b5dd1dfc8d168e1c9", func := "parley/parleykeep.Wire", spec := "wire", unfollowed := true, recurses := true, apart := false, narrowed := true }
def WireUptoSaid : Prop := wireUptoRow.holds Tryz.pinned (OpenSpec.upto wireSpec)

/-- 'parleykeep.Safe', WHERE WHAT IT READS IS OF BULK AT MOST 1048576: true; the input reads as it did. -/
def safeUptoRow : OpenClaim := { program := "ytepllfikffnniaagreat", sum := "7c5491fbb0517f80dd42ace8d45db4a4037a624b378e2d3b5dd1dfc8d168e1c9", func := "parley/parleykeep.Safe", spec := "safe", unfollowed := true, recurses := true, apart := false, narrowed := true }
def SafeUptoSaid : Prop := safeUptoRow.holds Tryz.pinned (OpenSpec.upto safeSpec)

/-- 'parleykeep.Comes', WHERE WHAT IT READS IS OF BULK AT MOST 1048576: true; the input reads as it did. -/
def comesUptoRow : OpenClaim := { program := "ytepllfikffnniaagreat", sum := "7c5491fbb0517f80dd42ace8d45db4a4037a624b378e2d3b5dd1dfc8d168e1c9", func := "parley/parleykeep.Comes", spec := "comes", unfollowed := true, recurses := true, apart := false, narrowed := true }
def ComesUptoSaid : Prop := comesUptoRow.holds Tryz.pinned (OpenSpec.upto comesSpec)

/-- 'parleykeep.Any', WHERE WHAT IT READS IS OF BULK AT MOST 1048576: true; the input reads as it did. -/
def anyUptoRow : OpenClaim := { program := "ytepllfikffnniaagreat", sum := "7c5491fbb0517f80dd42ace8d45db4a4037a624b378e2d3b5dd1dfc8d168e1c9", func := "parley/parleykeep.Any", spec := "any", unfollowed := true, recurses := true, apart := false, narrowed := true }
def AnyUptoSaid : Prop := anyUptoRow.holds Tryz.pinned (OpenSpec.upto anySpec)

end Rows
end Go.Proofs.YtepllfikffnniaaGreat
