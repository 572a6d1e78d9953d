import Derived.Test.YtpdahhnjhggocabGreatDoorBun23
import Derived.Test.YtpdahhnjhggocabGreatDoorBun20
import Derived.Shelf.Strings.Search2
import Derived.Shelf.RegionOpenPlain
import Derived.Lib.IndexLaws
namespace Go.Proofs.YtpdahhnjhggocabGreatDoor
open Go.RowKit
open Go.Shelf in
shelf_lay Lays.n219 Nm 219 at Tryz as Tryz.slIndex
theorem index10_any (s : ByteArray) (w : World) : Calls Tryz.prog 247 #[.string s, .string ⟨#[10]⟩] w fun e w' => e = .returned (.int .i64 (Lib.indexByte s.data.toList 10)) ∧ w' = w := Any.stringslite_Index_one Tryz.slIndex s 10 w
theorem index_cases (l : List UInt8) : (Lib.indexByte l 10 = -1 ∧ (10 : UInt8) ∉ l) ∨ ∃ i : Nat, Lib.indexByte l 10 = (i : Int) ∧ i < l.length ∧ l = l.take i ++ 10 :: l.drop (i + 1) ∧ (10 : UInt8) ∉ l.take i := by
 by_cases h : Lib.indexByte l 10 = -1
 ·refine .inl ⟨h, fun hm => ?_⟩
  obtain ⟨k, hk, e⟩ := List.mem_iff_getElem.1 hm
  exact Lib.indexByte_none h k (by rw [List.getElem?_eq_getElem hk, e])
 ·have hge := Lib.indexByte_ge l 10
  obtain ⟨i, hi⟩ : ∃ i : Nat, Lib.indexByte l 10 = (i : Int) := ⟨(Lib.indexByte l 10).toNat, by omega⟩
  obtain ⟨h1, h2⟩ := Lib.indexByte_some hi
  have hlt := (List.getElem?_eq_some_iff.1 h1).1
  refine .inr ⟨i, hi, hlt, ?_, fun hm => ?_⟩
  ·have he := (List.getElem?_eq_some_iff.1 h1).2
   conv => lhs; rw [← List.take_append_drop i l, List.drop_eq_getElem_cons hlt, he]
  ·obtain ⟨k, hk, e⟩ := List.mem_iff_getElem.1 hm
   rw [List.length_take] at hk
   rw [List.getElem_take] at e
   exact h2 k (by omega) (by rw [List.getElem?_eq_getElem (by omega), e])
def NlPost (s : ByteArray) (w : World) (e : Ending) (w' : World) : Prop := ∃ (x y : ByteArray) (b : Bool), e = .returned (.tuple #[.string x, .string y, .bool b]) ∧ CutNl s.data.toList x.data.toList y.data.toList ∧ Below w.heap.size w w'
theorem ext_take (s : ByteArray) (i : Nat) (_ : i < s.size) : (s.extract 0 i).data.toList = s.data.toList.take i := by simp
theorem ext_drop (s : ByteArray) (i : Nat) : (s.extract i s.size).data.toList = s.data.toList.drop i := by
 rw [ByteArray.data_extract, Array.toList_extract]
 have : s.data.toList.length = s.size := by simp
 rw [List.extract_eq_take_drop, ← this]; simp [List.take_of_length_le]
set_option maxHeartbeats 2000000 in
set_option maxRecDepth 100000 in
theorem slCut_any (s : ByteArray) (w : World) (hs : s.size ≤ 1048576) : Calls Tryz.prog 254 #[.string s, .string ⟨#[10]⟩] w fun e w' => NlPost s w e w' := by
 have HI := fun W => index10_any s W
 rcases index_cases s.data.toList with ⟨h1, h2⟩ | ⟨i, h1, h2, h3, h4⟩
 ·have HO : NlPost s w (.returned (.tuple #[.string s, .string ⟨#[]⟩, .bool false])) w := ⟨s, ⟨#[]⟩, false, rfl, .inl ⟨h2, rfl, rfl⟩, Below.refl _ _⟩
  have HOH := hid_in HO
  rw [h1] at HI
  clear HO h2 h1
  go_enter Tryz.func254, Tryz.ntmps254
  go_wp2_with (go_at_call 247; refine (HI _).mono ?_; rintro e w' ⟨rfl, rfl⟩)
  go_ret3
  exact HOH.out
 ·have hsz : s.data.toList.length = s.size := by simp
  rw [hsz] at h2
  have c1 : (0 : Int) ≤ (i : Int) := by omega
  have c2 : (i : Int) ≤ (s.size : Int) := by omega
  have c3 : (0 : Int) ≤ (i : Int) + 1 := by omega
  have c4 : (i : Int) + 1 ≤ (s.size : Int) := by omega
  have c5 : ((i : Int) + 1).toNat = i + 1 := by omega
  have c6 : IntKind.i64.wrap ((i : Int) + 1) = (i : Int) + 1 := by rw [IntKind.wrap_i64]; omega
  rw [h1] at HI
  have HO := fun w' (hb : Below w.heap.size w w') => (show NlPost s w (.returned (.tuple #[.string (s.extract 0 i), .string (s.extract (i + 1) s.size), .bool true])) w' from ⟨_, _, _, rfl, .inr ⟨by rw [ext_take s i h2, ext_drop]; exact h3, by rw [ext_take s i h2]; exact h4⟩, hb⟩)
  have HOH := hid_in HO
  clear HO h3 h4 h1 hsz
  go_enter Tryz.func254, Tryz.ntmps254
  go_wp2_with (go_at_call 247; refine (HI _).mono ?_; rintro e w' ⟨rfl, rfl⟩)
  go_region
  go_wp2
  go_ret3
  exact HOH.out _ (Below.refl _ _).drew
set_option maxHeartbeats 1000000 in
theorem strCut_any (s : ByteArray) (w : World) (hs : s.size ≤ 1048576) : Calls Tryz.prog 229 #[.string s, .string ⟨#[10]⟩] w fun e w' => NlPost s w e w' := by
 have HC := slCut_any s w hs
 go_enter Tryz.func229, Tryz.ntmps229
 go_wp2_with (go_at_call 254; refine HC.mono ?_)
 rintro e w' ⟨x, y, b, rfl, h1, h2⟩
 have HO := hid_in (show NlPost s w (.returned (.tuple #[.string x, .string y, .bool b])) w' from ⟨x, y, b, rfl, h1, h2⟩)
 clear HC h1 h2
 go_wp2
 go_ret3
 exact HO.out
end Go.Proofs.YtpdahhnjhggocabGreatDoor
