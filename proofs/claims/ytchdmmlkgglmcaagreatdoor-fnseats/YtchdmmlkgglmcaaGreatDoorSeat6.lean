/-
  What markSeat and heldSeat of the laws do. Conditions: numbers from 0 to 2^62.
-/
import Derived.Test.YtchdmmlkgglmcaaGreatDoorSeat3
namespace Go.Proofs.YtchdmmlkgglmcaaGreatDoor.Tx
open Go.RowKit

end Go.Proofs.YtchdmmlkgglmcaaGreatDoor.Tx
