/-
  What l6Time of the model answers. No conditions.
-/
import Derived.Test.YtojjfeebhjkdlaaIn
namespace Go.Proofs.Ytojjfeebhjkdlaa.Tx
open Go.RowKit



end Go.Proofs.Ytojjfeebhjkdlaa.Tx
