import Derived.Test.YtpdahhnjhggocabGreatDoorBun20
import Derived.Test.YtpdahhnjhggocabGreatDoorBun17
import Derived.Shelf.Strings.Search2
import Derived.Shelf.RegionOpenPlain
import Derived.Lib.IndexLaws
namespace Go.Proofs.YtpdahhnjhggocabGreatDoor
open Go.RowKit
open Go.Shelf in
shelf_lay Lays.n219 Nm 219 at Tryz as Tryz.slIndex
theorem index10_any (s : ByteArray) (w : World) : Calls Tryz.prog 247 #[.string s, .string ⟨#[10]⟩] w fun e w' => e = .returned (.int .i64 (Lib.indexByte s.data.toList 10)) ∧ w' = w := Any.stringslite_Index_one Tryz.slIndex s 10 w
end Go.Proofs.YtpdahhnjhggocabGreatDoor
