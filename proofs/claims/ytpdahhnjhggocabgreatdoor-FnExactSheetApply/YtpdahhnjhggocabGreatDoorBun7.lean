import Derived.Shelf.Strings.Trim
import Derived.Shelf.Small.Strs
import Derived.Test.YtpdahhnjhggocabGreatDoorProg
namespace Go.Proofs.YtpdahhnjhggocabGreatDoor
open Go.Shelf
end Go.Proofs.YtpdahhnjhggocabGreatDoor
