import Derived.Test.YtlaejmehgaeobabGreatDoorPrF
import Derived.Test.YtlaejmehgaeobabGreatDoorWordSpec2
import Derived.Test.YtlaejmehgaeobabGreatDoorValI
namespace Go.Proofs.YtlaejmehgaeobabGreatDoor
open Go.RowKit
theorem ba_of {t : ByteArray} {l : List UInt8} (h : t.data.toList = l) : t = ⟨l.toArray⟩ := by
  subst h; cases t; simp
set_option maxHeartbeats 4000000 in
set_option maxRecDepth 100000 in
theorem l4Line_any {x : LAt} {w : World} (hx : LineIn w x) (hl : (lineL x.plain).length ≤ 140737488355328) (hn : x.ws.length ≤ 1048576) (hs : ∀ y ∈ x.ws, y.length ≤ 1048576) : Calls Tryz.prog 33 #[.agg #[.string x.key, x.v]] w fun e w' => e = .returned (.string ⟨(lineL x.plain).toArray⟩) ∧ Below w.heap.size w w' := by
  obtain ⟨ax, cx, e1⟩ := hx.form
  rw [← lineTo_all] at hl ⊢
  have hx' : HasRow w (.slice ax x.ws.length cx) x.ws.length 1 (strs x.ws) := e1 ▸ hx
  rw [e1]
  clear hx e1
  obtain ⟨key, v, ws⟩ := x
  simp only at *
  have hle := hid_in (fun j => Nat.le_trans (lineTo_le key ws j) hl)
  have hZ := hid_in (lineTo_zero key ws)
  have hs' := hid_in hs
  generalize hws : ws.length = n at *
  have hN := hid_in hws
  have b0 : Below w.heap.size w (w.alloc (.cells #[.string key, .slice ax n cx] 63)) := (Below.refl w.heap.size w).alloc (Nat.le_refl _) (.cells #[.string key, .slice ax n cx] 63)
  have hX := hid_in (hx'.below b0)
  clear hws hx' hl hs
  have c0 := one_box (w := w) (cs := #[.string key, .slice ax n cx]) (T := 63) 0
  have c1 := one_box (w := w) (cs := #[.string key, .slice ax n cx]) (T := 63) 1
  simp only [List.getElem?_toArray, List.getElem?_cons_zero, List.getElem?_cons_succ] at c0 c1
  go_enter Tryz.func33, Tryz.ntmps33
  go_wp2
  generalize hw1 : w.alloc (.cells #[.string key, .slice ax n cx] 63) = w1 at *
  clear hw1
  go_loopw [3, 4] (fun s i wr => ∃ j : Nat, ∃ t : ByteArray, j ≤ n ∧ i = .int .i64 (j : Int) ∧ s = .string t ∧ t.data.toList = lineTo key ws j ∧ Below w1.heap.size w1 wr) (fun _ i _ => n - (intOf i).toNat)
  case atStart => exact ⟨0, key, by omega, rfl, rfl, hZ.out.symm, Below.refl _ _⟩
  case round =>
    obtain ⟨j, t, hj, rfl, rfl, ht, bj⟩ := hrel
    have d1 := (bj.cell (World.block_lt_of_cell? w1 _ c1)).trans c1
    by_cases hlt : j < n
    · have hjl : j < ws.length := by rw [hN.out]; exact hlt
      obtain ⟨g, off, rfl, cw⟩ := hX.out.word j hjl
      have cw' : wr.cell? ⟨g, off + j, none⟩ = some (.string ⟨ws[j].toArray⟩) := (bj.cell (World.block_lt_of_cell? w1 _ cw)).trans cw
      have hsj := hs'.out ws[j] (List.getElem_mem hjl)
      have hSj := hid_in (lineTo_succ key ws j hjl)
      have hlj := hle.out (j + 1)
      rw [hSj.out, ← ht] at hlj
      generalize hy : ws[j] = y at *
      generalize hl1 : lineTo key ws (j + 1) = l1 at *
      generalize lineTo key ws j = l0 at *
      have HW := specWord_any ⟨y.toArray⟩ wr (by show y.toArray.size ≤ 1048576; simpa using hsj)
      obtain ⟨u, hu⟩ : ∃ u : ByteArray, u = ⟨(wordL y).toArray⟩ := ⟨_, rfl⟩
      have hu' : u.data.toList = wordL y := by rw [hu]
      simp only [← hu] at HW
      have hts : t.data.toList.length = t.size := by simp
      have hus : u.data.toList.length = u.size := by simp
      have hsz : t.size + 1 + u.size ≤ 140737488355328 := by
        rw [← hu'] at hlj
        simp only [List.length_append, List.length_singleton] at hlj
        omega
      have f1 : ¬ 9223372036854775807 < t.size + 1 := by omega
      have f2 : ¬ 9223372036854775807 < t.size + 1 + u.size := by omega
      have i1 : (j : Int) < (n : Int) := by omega
      have i0 : (0 : Int) ≤ (j : Int) := by omega
      have HT := hid_in (show (t ++ ⟨#[32]⟩ ++ u).data.toList = l1 by rw [hSj.out, ← ht, ← hu']; simp)
      clear hu hts hus hlj cw
      go_wp2_with (go_at_call 71; refine HW.mono ?_; rintro e w3 ⟨rfl, b3⟩)
      go_roundw
      case rel => exact ⟨j + 1, t ++ ⟨#[32]⟩ ++ u, by omega, by go_num, rfl, by rw [hl1]; exact HT.out, bj.trans (b3.mono bj.size)⟩
      case measure => simp [intOf]; omega
    · obtain rfl : j = n := by omega
      have HT := hid_in (ba_of ht)
      clear ht
      go_wp2
      go_ret
      exact ⟨by rw [← HT.out]; rfl, b0.trans (bj.mono b0.size)⟩
end Go.Proofs.YtlaejmehgaeobabGreatDoor
