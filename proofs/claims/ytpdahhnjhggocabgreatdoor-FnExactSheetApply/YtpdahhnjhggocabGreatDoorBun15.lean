import Derived.Test.YtpdahhnjhggocabGreatDoorBun12
import Derived.Shelf.Strings.BuilderK
namespace Go.Proofs.YtpdahhnjhggocabGreatDoor
open Go.RowKit
abbrev Bld (B b : Nat) (bs : List Value) (w : World) : Prop := Lib.IsBuilderF 100 5 B b bs w
end Go.Proofs.YtpdahhnjhggocabGreatDoor
namespace Go.Proofs.YtpdahhnjhggocabGreatDoor
open Go.RowKit
end Go.Proofs.YtpdahhnjhggocabGreatDoor
