import Derived.Test.YtpdahhnjhggocabGreatDoorBun16
import Derived.Laws.Rows
namespace Go.Proofs.YtpdahhnjhggocabGreatDoor
open Go.RowKit
end Go.Proofs.YtpdahhnjhggocabGreatDoor
