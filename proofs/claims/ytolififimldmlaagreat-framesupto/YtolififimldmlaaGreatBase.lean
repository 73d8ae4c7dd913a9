import Derived.Test.YtolififimldmlaaGreatRows
import Derived.WalkKit
import Derived.WalkSpells
import Derived.WalkLawsBesides
import Derived.Deep.RegionHeld3
import Derived.Deep.RegionHeldLaw
import Derived.Deep.AppendLies
import Derived.Deep.LoopGhost
import Derived.Deep.Light
import Derived.Deep.DrawnRows
import Derived.BigQuiet
import Derived.Deep.QuietTactic
import Derived.Deep.DeepCutAuto
import Derived.Deep.DeepFit
import Derived.Laws.CopyOwn
set_option linter.unusedVariables false
set_option linter.unusedSimpArgs false
namespace Go.Proofs.YtolififimldmlaaGreat
open Go.RowKit

/-- The byte that a mark looks like at place i. -/
def sg (m i : Nat) : Nat := (m + i * (1 + m / 256)) % 256

theorem hid {p : Prop} (h : p) : Hid p := h
theorem ret_bool {a b : Bool} (h : a = b) : Ending.returned (.bool a) = .returned (.bool b) := by rw [h]
theorem ret_int {k : IntKind} {a b : Int} (h : a = b) : Ending.returned (.int k a) = .returned (.int k b) := by rw [h]

theorem sg_wrap (m i : Nat) : wrap64 ((m : Int) + wrap64 ((i : Int) * (1 + (m : Int) / 256))) % 256 = (sg m i : Int) := by
  have e : ((i : Int) * (1 + (m : Int) / 256)) = ((i * (1 + m / 256) : Nat) : Int) := by
    rw [Int.natCast_mul, Int.natCast_add, Int.natCast_ediv]; rfl
  rw [e]
  unfold sg
  generalize i * (1 + m / 256) = p
  unfold wrap64
  omega

set_option maxHeartbeats 400000 in
theorem sign_any (m i : Nat) (w : World) (hm : m ≤ 100000000) (hi : i ≤ 100000000) :
    Calls Tryz.prog 112 #[.int .i64 m, .int .i64 i] w fun e w' => e = .returned (.int .u8 (sg m i)) ∧ w' = w := by
  go_enter Tryz.func112, Tryz.ntmps112
  go_wp2
  go_ret
  exact ⟨ret_int (sg_wrap m i), rfl⟩

/-- 'string(b)' of one byte. -/
theorem conv1 (q c : Nat) (x : Int) (w : World) (h : w.cell? ⟨q, 0, none⟩ = some (.int .u8 x)) :
    (convert 31 9 (.slice (some ⟨q, 0, none⟩) 1 c)).run Tryz.prog w = .ok (.string (strOfNums [x])) w :=
  run_convert_bytes_arg w 31 5 Tryz.underlying31 Tryz.underlying5 q 0 1 c [x] rfl (fun i hi => by
    have : i = 0 := by omega
    subst this; exact h) 9 Tryz.underlying9

end Go.Proofs.YtolififimldmlaaGreat
