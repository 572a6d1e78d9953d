import Derived.Test.YtpdahhnjhggocabGreatDoorBun23
import Derived.Test.YtpdahhnjhggocabGreatDoorBun20
import Derived.Shelf.Strings.Search2
import Derived.Shelf.RegionOpenPlain
import Derived.Lib.IndexLaws
namespace Go.Proofs.YtpdahhnjhggocabGreatDoor
open Go.RowKit
end Go.Proofs.YtpdahhnjhggocabGreatDoor
