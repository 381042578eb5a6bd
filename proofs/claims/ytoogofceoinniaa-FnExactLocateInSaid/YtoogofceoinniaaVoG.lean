/- Votes: the specification's VotersFor, VotesFor, WithoutVoters. -/
import Derived.Test.YtoogofceoinniaaVoE
namespace Go.Proofs.Ytoogofceoinniaa
open Go.ChangeShapes Go.WideShapes Go.ChangeAt Go.RowKit Go.ChangeMaps Go.Sort
set_option linter.unusedSimpArgs false
set_option linter.unusedVariables false
end Go.Proofs.Ytoogofceoinniaa
