import Derived.Shelf.Strings.Builder1
import Derived.Shelf.LaysM
import Derived.Shelf.Strconv.Clone
import Derived.Test.YtpdahhnjhggocabGreatDoorProg
namespace Go.Proofs.YtpdahhnjhggocabGreatDoor
open Go.Shelf
end Go.Proofs.YtpdahhnjhggocabGreatDoor
