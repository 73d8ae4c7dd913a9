import Derived.Test.YtepllfikffnniaaGreatGoP
import Derived.Test.YtepllfikffnniaaGreatFramesW
import Derived.Test.YtepllfikffnniaaGreatExample
set_option linter.unusedVariables false
set_option linter.unusedSimpArgs false
namespace Go.Proofs.YtepllfikffnniaaGreat

/-- Frames. -/
theorem framesProof : Rows.FramesUptoSaid := frames_of packSaid_ unpackSaid_ (exampleF packSaid_ unpackSaid_)

end Go.Proofs.YtepllfikffnniaaGreat
