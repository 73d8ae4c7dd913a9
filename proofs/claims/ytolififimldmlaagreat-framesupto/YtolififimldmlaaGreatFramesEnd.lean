import Derived.Test.YtolififimldmlaaGreatGoP
import Derived.Test.YtolififimldmlaaGreatFramesW
import Derived.Test.YtolififimldmlaaGreatExample
set_option linter.unusedVariables false
set_option linter.unusedSimpArgs false
namespace Go.Proofs.YtolififimldmlaaGreat

/-- Frames. -/
theorem framesProof : Rows.FramesUptoSaid := frames_of packSaid_ unpackSaid_ (exampleF packSaid_ unpackSaid_)

end Go.Proofs.YtolififimldmlaaGreat
