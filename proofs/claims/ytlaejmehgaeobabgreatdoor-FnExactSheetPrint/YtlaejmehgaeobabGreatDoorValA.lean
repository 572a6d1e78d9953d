import Derived.Test.YtlaejmehgaeobabGreatDoorCmpA
import Derived.Test.YtlaejmehgaeobabGreatDoorFitsH
namespace Go.Proofs.YtlaejmehgaeobabGreatDoor
open Go.RowKit
theorem NoneTo.place {D T : List RAt} {r : RAt} {key : ByteArray} (h : NoneTo (D ++ r :: T) key D.length) (hr : (r.key.toList == key.toList) = true) : (D.length : Int) = placeI ((D ++ r :: T).map RAt.plain) key := by
  unfold placeI
  unfold NoneTo at h
  have e : ((D ++ r :: T).map RAt.plain).findIdx? (fun p => p.1.toList == key.toList) = some D.length := by
    refine List.findIdx?_eq_some_iff_getElem.2 ⟨by simp, by simpa [RAt.plain] using hr, fun j hj => ?_⟩
    rw [List.take_append_of_le_length (Nat.le_refl _), List.take_length] at h
    have := h D[j] (List.getElem_mem _)
    simp only [List.getElem_map]
    rw [List.getElem_append_left hj]
    simpa [RAt.plain] using this
  rw [e]
theorem NoneTo.no_place {L : List RAt} {key : ByteArray} (h : NoneTo L key L.length) : (-1 : Int) = placeI (L.map RAt.plain) key := by
  unfold placeI
  rw [List.findIdx?_eq_none_iff.2]
  intro p hp
  unfold NoneTo at h
  rw [List.take_length] at h
  obtain ⟨r, hr, rfl⟩ := List.mem_map.1 hp
  exact h r hr
theorem one_box {w : World} {cs : Array Value} {T : TypeId} (j : Nat) : (w.alloc (.cells cs T)).cell? ⟨w.heap.size, j, none⟩ = cs[j]? := by
  unfold World.cell?
  rw [alloc_here]; rfl
theorem keyIs_any (rk key : ByteArray) (va vd : Value) (many : Bool) (g : Nat) (w : World) (hva : ∃ a n c, va = .slice a n c) (hvd : ∃ a n c, vd = .slice a n c) (hg : w.cell? ⟨g, 0, none⟩ = some (.string key)) : Calls Tryz.prog 107 #[.agg #[.string rk, va, .bool many, vd], .pointer (some ⟨g, 0, none⟩)] w fun e w' => e = .returned (.bool (rk.toList == key.toList)) ∧ Grown w w' := by
  obtain ⟨a, n, c, rfl⟩ := hva
  obtain ⟨a', n', c', rfl⟩ := hvd
  have G := (Grown.refl w).alloc (.cells #[.string rk, .slice a n c, .bool many, .slice a' n' c'] 94)
  have hlt := World.block_lt_of_cell? w _ hg
  have hg' : (w.alloc (.cells #[.string rk, .slice a n c, .bool many, .slice a' n' c'] 94)).cell? ⟨g, 0, none⟩ = some (.string key) := (G.1.cell hlt).trans hg
  go_enter Tryz.func107, Tryz.ntmps107
  go_wp2
  go_ret
  exact ⟨rfl, G⟩
/-- The rules as they are read. -/
def RulesIn (w : World) (v : Value) (L : List RAt) : Prop := HasRow w v L.length 4 (L.flatMap RAt.cells) ∧ ∀ r ∈ L, (∃ a n c, r.va = .slice a n c) ∧ ∃ a n c, r.vd = .slice a n c
theorem RAt.len (x : RAt) : x.cells.length = 4 := rfl
theorem RulesIn.below {w w' : World} {v : Value} {L : List RAt} (h : RulesIn w v L) (hb : Below w.heap.size w w') : RulesIn w' v L := ⟨h.1.below hb, h.2⟩
theorem RulesAt.rin {B : Nat} {w : World} {v : Value} {L : List RAt} (h : RulesAt B w v L) : RulesIn w v L := by
  refine ⟨own_has (Mem.head h), fun r hr => ?_⟩
  obtain ⟨D, T, rfl⟩ := List.append_of_mem hr
  obtain ⟨a, c, e1, _⟩ := own_form h.rm.args
  obtain ⟨a', c', e2, _⟩ := own_form h.rm.defs
  exact ⟨⟨a, _, c, e1⟩, ⟨a', _, c', e2⟩⟩
theorem HasRow.rule {w : World} {ao : Option Addr} {n m cap : Nat} {D T : List RAt} {x : RAt} (h : HasRow w (.slice ao m cap) n 4 ((D ++ x :: T).flatMap RAt.cells)) : ∃ b off, ao = some ⟨b, off, none⟩ ∧ w.cell? ⟨b, off + D.length * 4, none⟩ = some (.string x.key) ∧ w.cell? ⟨b, off + D.length * 4 + 1, none⟩ = some x.va ∧ w.cell? ⟨b, off + D.length * 4 + 2, none⟩ = some (.bool x.many) ∧ w.cell? ⟨b, off + D.length * 4 + 3, none⟩ = some x.vd := by
  have hn : 0 < n := by have := h.1; rw [rowF_len _ 4 RAt.len] at this; simp at this; omega
  obtain ⟨b, off, ha, hc⟩ := h.at hn
  refine ⟨b, off, ha, ?_, ?_, ?_, ?_⟩
  · have := hc (D.length * 4 + 0) (.string x.key) (by rw [rowF_at _ 4 RAt.len _ _ _ 0 (by decide)]; rfl)
    simpa using this
  · have := hc (D.length * 4 + 1) x.va (by rw [rowF_at _ 4 RAt.len _ _ _ 1 (by decide)]; rfl)
    rw [← Nat.add_assoc] at this; exact this
  · have := hc (D.length * 4 + 2) (.bool x.many) (by rw [rowF_at _ 4 RAt.len _ _ _ 2 (by decide)]; rfl)
    rw [← Nat.add_assoc] at this; exact this
  · have := hc (D.length * 4 + 3) x.vd (by rw [rowF_at _ 4 RAt.len _ _ _ 3 (by decide)]; rfl)
    rw [← Nat.add_assoc] at this; exact this
set_option maxHeartbeats 1000000 in
set_option maxRecDepth 100000 in
theorem indexFunc_any {v : Value} {L : List RAt} (key : ByteArray) (g : Nat) {w : World} (hr : RulesIn w v L) (hl : L.length ≤ 12) (hg : w.cell? ⟨g, 0, none⟩ = some (.string key)) : Calls Tryz.prog 106 #[v, .func (.func 107) #[] #[.pointer (some ⟨g, 0, none⟩)]] w fun e w' => e = .returned (.int .i64 (placeI (L.map RAt.plain) key)) ∧ Grown w w' := by
  obtain ⟨ao, cap, rfl⟩ := hr.1.form
  generalize hn : L.length = n at *
  go_enter Tryz.func106, Tryz.ntmps106
  go_wp2
  go_loopw [8] (fun i wr => ∃ j : Nat, j ≤ n ∧ i = .int .i64 (j : Int) ∧ Grown w wr ∧ NoneTo L key j) (fun i _ => n - (intOf i).toNat)
  case atStart => exact ⟨0, by omega, rfl, Grown.refl _, NoneTo.zero _ _⟩
  case round =>
    obtain ⟨j, hj, rfl, G, hA⟩ := hrel
    by_cases hlt : j < n
    · obtain ⟨D, r, T, rfl, hD⟩ := split1 L j (by omega)
      have hr' := hr.below G.1
      obtain ⟨b, off, rfl, c0, c1, c2, c3⟩ := hr'.1.rule
      have hsh := hr'.2 r (by simp)
      have hg' : wr.cell? ⟨g, 0, none⟩ = some (.string key) := (G.1.cell (World.block_lt_of_cell? w _ hg)).trans hg
      obtain ⟨rk, va, ns, many, vd, ds⟩ := r
      simp only at c0 c1 c2 c3 hsh
      subst hD
      have H := keyIs_any rk key va vd many g wr hsh.1 hsh.2 hg'
      cases hk : (rk.toList == key.toList)
      · have HA := hA.succ hk
        rw [hk] at H
        clear hA hr hr' hg hg' hsh
        go_wp2_with (go_at_call 107; refine H.mono ?_; rintro e w1 ⟨rfl, G1⟩)
        go_roundw
        case rel => exact ⟨D.length + 1, by omega, by go_num, G.trans G1, HA⟩
        case measure => simp [intOf]; omega
      · have HA := hid_in (hA.place hk)
        rw [hk] at H
        clear hA hr hr' hg hg' hsh
        go_wp2_with (go_at_call 107; refine H.mono ?_; rintro e w1 ⟨rfl, G1⟩)
        go_ret
        exact ⟨ret_int HA.out, G.trans G1⟩
    · obtain rfl : j = n := by omega
      have HA := hid_in (NoneTo.no_place (hn ▸ hA))
      clear hA hr
      go_wp2
      go_ret
      exact ⟨ret_int HA.out, G⟩
theorem keyPlace_any {v : Value} {L : List RAt} (key : ByteArray) {w : World} (hr : RulesIn w v L) (hl : L.length ≤ 12) : Calls Tryz.prog 60 #[v, .string key] w fun e w' => e = .returned (.int .i64 (placeI (L.map RAt.plain) key)) ∧ Grown w w' := by
  have G := (Grown.refl w).alloc (.cells #[.string key] 9)
  have H := indexFunc_any key w.heap.size (hr.below G.1) hl (one_box 0)
  clear hr
  go_enter Tryz.func60, Tryz.ntmps60
  go_wp2_with (go_at_call 106; refine H.mono ?_; rintro e w1 ⟨rfl, G1⟩)
  go_ret
  exact ⟨rfl, G.trans G1⟩
end Go.Proofs.YtlaejmehgaeobabGreatDoor
