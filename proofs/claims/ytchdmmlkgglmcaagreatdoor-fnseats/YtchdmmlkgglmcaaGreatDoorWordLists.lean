/-
  What the laws' helpers over lists of Words do: they are copied, counted, held against each other, marked. Conditions: at most 1048576 of them; each text at most 2^63 - 1 bytes.
-/
import Derived.Laws.MakeOwn
import Derived.Test.YtchdmmlkgglmcaaGreatDoorEltsTo
import Derived.Test.YtchdmmlkgglmcaaGreatDoorSeat0
import Derived.Test.YtchdmmlkgglmcaaGreatDoorWord
import Derived.Test.YtchdmmlkgglmcaaGreatDoorRegionL
namespace Go.Proofs.YtchdmmlkgglmcaaGreatDoor.Tx
open Go.RowKit




end Go.Proofs.YtchdmmlkgglmcaaGreatDoor.Tx
