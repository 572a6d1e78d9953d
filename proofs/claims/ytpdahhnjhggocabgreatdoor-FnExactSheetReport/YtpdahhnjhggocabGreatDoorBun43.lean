import Derived.Test.YtpdahhnjhggocabGreatDoorBun41
import Derived.Test.YtpdahhnjhggocabGreatDoorBun25
namespace Go.Proofs.YtpdahhnjhggocabGreatDoor
open Go.RowKit
def ReadPost (RES : PRes) (w : World) (e : Ending) (w' : World) : Prop := Below w.heap.size w w' ∧ match RES with
 | .good bs => ∃ a n c gs, e = .returned (.tuple #[.slice a n c, .nilIface]) ∧ plainG gs = bs ∧ Mem w.heap.size w' (grows (.slice a n c) gs) ∧ (∀ b ∈ gs, b.sm) ∧ gs.length ≤ 1000000
 | .bad m c => e = .returned (.tuple #[.slice none 0 0, flt m c])
set_option maxHeartbeats 2000000 in
set_option maxRecDepth 100000 in
theorem readText_any (s : ByteArray) {w : World} (hs0 : s.size ≤ 4000000) (hst : StdAt w) : Calls Tryz.prog 50 #[.string s] w fun e w' => ReadPost (parseT s.data.toList) w e w' := by
 have HT := tooLong_any s w (by omega)
 by_cases hl : tooLongL s.data.toList
 ·rw [decide_eq_true hl] at HT
  have HO := hid_in (show ReadPost (parseT s.data.toList) w (.returned (.tuple #[.slice none 0 0, flt 0 11])) w from ⟨Below.refl _ _, by rw [parseT_long hl]⟩)
  clear hst
  unfold flt at *
  go_enter Tryz.func50, Tryz.ntmps50
  go_wp2_with (go_at_call 66; refine HT.mono ?_; rintro e w2 ⟨rfl, rfl⟩)
  go_ret2
  exact HO.out
 ·rw [decide_eq_false hl] at HT
  have hs : s.size ≤ 1048576 := by
   have h1 : s.data.toList.length = s.size := rfl
   unfold tooLongL at hl
   omega
  have b1 := (Below.refl w.heap.size w).alloc (Nat.le_refl _) (.cells #[.string s, .int .i64 0] 162)
  have z1 := alloc_here w (.cells #[.string s, .int .i64 0] 162)
  have s1 : (w.alloc (.cells #[.string s, .int .i64 0] 162)).heap.size = w.heap.size + 1 := by simp
  have hn : (textLines s.data.toList).length ≤ 400 := by
   unfold tooLongL at hl
   omega
  have HB := blocks_any (R := w.heap.size) (rest := s) (w := w.alloc (.cells #[.string s, .int .i64 0] 162)) z1 hs (by omega) (fun W hg => hst.below (belowGrown b1 (by omega) (Nat.le_refl _) hg))
  have e1 := parseT_go hl
  rw [← e1] at HB
  have B1 := hid_in b1
  clear hst b1 z1 e1 hn
  go_enter Tryz.func50, Tryz.ntmps50
  go_wp2_with (first | (go_at_call 66; refine HT.mono ?_; rintro e w0 ⟨rfl, rfl⟩) | (go_at_call 110; refine HB.mono ?_))
  rintro e w2 ⟨hg, hp⟩
  have hb := belowGrown B1.out (by omega) (Nat.le_refl _) hg
  cases hR : parseT s.data.toList with
  | good bs =>
   rw [hR] at hp
   obtain ⟨a, n, c, gs, rfl, h1, h2, h3, h4⟩ := hp
   have HO := hid_in (show ReadPost (parseT s.data.toList) w0 (.returned (.tuple #[.slice a n c, .nilIface])) w2 from by rw [hR]; exact ⟨hb, a, n, c, gs, rfl, h1, h2.mono (by omega), h3, h4⟩)
   clear HB HT hg h1 h2 h3 h4 hb B1
   go_wp2
   go_ret2
   exact HO.out
  | bad m c =>
   rw [hR] at hp
   obtain rfl := hp
   have HO := hid_in (show ReadPost (parseT s.data.toList) w0 (.returned (.tuple #[.slice none 0 0, flt m c])) w2 from by rw [hR]; exact ⟨hb, rfl⟩)
   clear HB HT hg hb B1
   unfold flt at *
   go_wp2
   go_ret2
   exact HO.out
end Go.Proofs.YtpdahhnjhggocabGreatDoor
