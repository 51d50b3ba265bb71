/-
  What toWord, szWord and eqWord of the laws do. Condition: a word's text has at most 2^63 - 1 bytes.
-/
import Derived.Deep.DeepCutAuto
import Derived.Laws.CopyOwn
import Derived.Test.YtchdmmlkgglmcaaGreatDoorBox
import Derived.Test.YtchdmmlkgglmcaaGreatDoorSeat0
namespace Go.Proofs.YtchdmmlkgglmcaaGreatDoor.Tx
open Go.RowKit

end Go.Proofs.YtchdmmlkgglmcaaGreatDoor.Tx
