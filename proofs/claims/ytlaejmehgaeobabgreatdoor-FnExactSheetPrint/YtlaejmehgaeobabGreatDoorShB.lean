import Derived.Test.YtlaejmehgaeobabGreatDoorShA
namespace Go.Proofs.YtlaejmehgaeobabGreatDoor
open Go.RowKit
def LinesWide (ls : List LAt) : Prop := ∀ x ∈ ls, LineWide x
set_option maxHeartbeats 1000000 in
set_option maxRecDepth 100000 in
theorem szLines_any {left : Nat} {v : Value} {ls : List LAt} {w : World} (h : LinesIn w v ls) (hw : LinesWide ls) (hl : left ≤ 1048576) : Calls Tryz.prog 121 #[v, .int .i64 (left : Int)] w fun e w' => SzQ left (LinesSmall ls) w e w' := by
  obtain ⟨ao, cap, rfl⟩ := h.1.form
  have hf := row_wide h.1
  generalize hn : ls.length = len at *
  have en := hid_in hn
  clear hn
  have hf' : (len : Int) ≤ 9223372036854775807 := by omega
  by_cases hl1 : len ≤ left
  · have hl' : ¬ ((left : Int) - (len : Int) < 0) := by omega
    go_enter Tryz.func121, Tryz.ntmps121
    go_wp2
    go_loopw [1, 5] (fun q i wr => ∃ j r : Nat, j ≤ len ∧ r ≤ left ∧ i = .int .i64 (j : Int) ∧ q = .int .i64 (r : Int) ∧ Below w.heap.size w wr ∧ AllTo LineSmall ls j) (fun _ i _ => len - (intOf i).toNat)
    case atStart => exact ⟨0, left - len, by omega, by omega, rfl, by congr 1; omega, Below.refl _ _, AllTo.zero _ _⟩
    case round =>
      obtain ⟨j, r, hj, hr, rfl, rfl, bw, hA⟩ := hrel
      by_cases hlt : j < len
      · obtain ⟨D, x, T, rfl, hD⟩ := split1 ls j (by have := en.out; omega)
        have h5 := h.below bw
        obtain ⟨g, off, rfl, c1, c2⟩ := h5.1.line
        obtain ⟨ax, cx, e1⟩ := HasRow.form (h5.2 x (by simp))
        have HX := szLine_any (left := r) (h5.2 x (by simp)) (hw x (by simp)) (by omega)
        rw [e1] at c2 HX
        subst hD
        have hA' := fun h => hA.succ (r := x) h
        clear h h5 hw hA e1 en
        generalize LineSmall x = LS at *
        generalize x.ws.length = nx at *
        generalize x.key = xk at *
        go_wp2_with (go_at_call 148; refine HX.mono ?_)
        rintro e w2 ⟨rfl | ⟨q, hq, rfl, hs⟩, b2⟩
        · go_wp2
          go_ret
          exact ⟨.inl rfl, bw.trans (b2.mono bw.size)⟩
        · have HA := hA' hs
          have hq0 : ¬ ((q : Int) < 0) := by omega
          clear hA'
          go_wp2
          go_roundw
          case rel => exact ⟨D.length + 1, q, by omega, by omega, by go_num, rfl, bw.trans (b2.mono bw.size), HA⟩
          case measure => simp [intOf]; omega
      · obtain rfl : j = len := by omega
        have HA := hid_in (show LinesSmall ls from ⟨by have := en.out; omega, AllTo.all (by rw [en.out]; exact hA)⟩)
        clear hA h hw
        go_wp2
        go_ret
        exact ⟨.inr ⟨r, hr, rfl, HA.out⟩, bw⟩
  · have hl' : (left : Int) - (len : Int) < 0 := by omega
    clear h hw
    go_enter Tryz.func121, Tryz.ntmps121
    go_wp2
    go_ret
    exact ⟨.inl rfl, Below.refl _ _⟩
def BlockWide (b : BAt) : Prop := b.kind.size ≤ 9223372036854775807 ∧ b.name.size ≤ 9223372036854775807 ∧ LinesWide b.ls
def BlockSmall (b : BAt) : Prop := b.name.size ≤ 1048576 ∧ LinesSmall b.ls
set_option maxHeartbeats 1000000 in
set_option maxRecDepth 100000 in
theorem szBlock_any {left : Nat} {x : BAt} {w : World} (h : BlockIn w x) (hw : BlockWide x) (hl : left ≤ 1048576) : Calls Tryz.prog 69 #[.agg #[.string x.kind, .string x.name, x.v], .int .i64 (left : Int)] w fun e w' => SzQ left (BlockSmall x) w e w' := by
  obtain ⟨ax, cx, e1⟩ := h.1.form
  unfold BlockIn at h
  rw [e1] at h ⊢
  have g6 : Below w.heap.size w (w.alloc (.cells #[.string x.kind, .string x.name, .slice ax x.ls.length cx] 129)) := (Below.refl _ _).alloc (Nat.le_refl _) _
  have h6 := h.below g6
  have k1 := one_box (w := w) (cs := #[.string x.kind, .string x.name, .slice ax x.ls.length cx]) (T := 129) 0
  have k2 := one_box (w := w) (cs := #[.string x.kind, .string x.name, .slice ax x.ls.length cx]) (T := 129) 1
  have k3 := one_box (w := w) (cs := #[.string x.kind, .string x.name, .slice ax x.ls.length cx]) (T := 129) 2
  simp only [List.getElem?_toArray, List.getElem?_cons_zero, List.getElem?_cons_succ] at k1 k2 k3
  have hk : (x.kind.size : Int) ≤ 9223372036854775807 := by have := hw.1; omega
  have hk2 : (x.name.size : Int) ≤ 9223372036854775807 := by have := hw.2.1; omega
  have HZ := fun (l : Nat) (hl : l ≤ 1048576) => szLines_any (left := l) h6 hw.2.2 hl
  have hBS := hid_in (show x.name.size ≤ 1048576 → LinesSmall x.ls → BlockSmall x from fun a b => ⟨a, b⟩)
  generalize BlockSmall x = BS at *
  clear h hw e1 h6
  generalize LinesSmall x.ls = LS at *
  generalize x.ls.length = nx at *
  generalize x.kind = xk at *
  generalize x.name = xn at *
  by_cases h1 : xk.size ≤ left
  · have h1' : ¬ ((left : Int) - (xk.size : Int) < 0) := by omega
    by_cases h2 : xk.size + xn.size ≤ left
    · have HZ' := HZ (left - xk.size - xn.size) (by omega)
      have hc : ((left - xk.size - xn.size : Nat) : Int) = (left : Int) - (xk.size : Int) - (xn.size : Int) := by omega
      rw [hc] at HZ'
      have h2' : ¬ ((left : Int) - (xk.size : Int) - (xn.size : Int) < 0) := by omega
      have hBS' := hid_in (hBS.out (by omega))
      clear HZ hBS
      go_enter Tryz.func69, Tryz.ntmps69
      go_wp2_with (go_at_call 121; refine HZ'.mono ?_)
      rintro e w2 ⟨rfl | ⟨r, hr, rfl, hs⟩, b2⟩
      · go_wp2
        go_ret
        exact ⟨.inl rfl, g6.trans (b2.mono g6.size)⟩
      · have hr0 : ¬ ((r : Int) < 0) := by omega
        go_wp2
        go_ret
        exact ⟨.inr ⟨r, by omega, rfl, hBS'.out hs⟩, g6.trans (b2.mono g6.size)⟩
    · have h2' : (left : Int) - (xk.size : Int) - (xn.size : Int) < 0 := by omega
      clear HZ hBS
      go_enter Tryz.func69, Tryz.ntmps69
      go_wp2
      go_ret
      exact ⟨.inl rfl, g6⟩
  · have h1' : (left : Int) - (xk.size : Int) < 0 := by omega
    clear HZ hBS
    go_enter Tryz.func69, Tryz.ntmps69
    go_wp2
    go_ret
    exact ⟨.inl rfl, g6⟩
def BlocksWide (bs : List BAt) : Prop := ∀ x ∈ bs, BlockWide x
set_option maxHeartbeats 1000000 in
set_option maxRecDepth 100000 in
theorem szBlocks_any {left : Nat} {v : Value} {bs : List BAt} {w : World} (h : BlocksIn w v bs) (hw : BlocksWide bs) (hl : left ≤ 1048576) : Calls Tryz.prog 31 #[v, .int .i64 (left : Int)] w fun e w' => SzQ left (BlocksSmall bs) w e w' := by
  obtain ⟨ao, cap, rfl⟩ := h.1.form
  have hf := row_wide h.1
  generalize hn : bs.length = len at *
  have en := hid_in hn
  clear hn
  have hf' : (len : Int) ≤ 9223372036854775807 := by omega
  by_cases hl1 : len ≤ left
  · have hl' : ¬ ((left : Int) - (len : Int) < 0) := by omega
    go_enter Tryz.func31, Tryz.ntmps31
    go_wp2
    go_loopw [1, 5] (fun q i wr => ∃ j r : Nat, j ≤ len ∧ r ≤ left ∧ i = .int .i64 (j : Int) ∧ q = .int .i64 (r : Int) ∧ Below w.heap.size w wr ∧ AllTo BlockSmall bs j) (fun _ i _ => len - (intOf i).toNat)
    case atStart => exact ⟨0, left - len, by omega, by omega, rfl, by congr 1; omega, Below.refl _ _, AllTo.zero _ _⟩
    case round =>
      obtain ⟨j, r, hj, hr, rfl, rfl, bw, hA⟩ := hrel
      by_cases hlt : j < len
      · obtain ⟨D, x, T, rfl, hD⟩ := split1 bs j (by have := en.out; omega)
        have h5 := h.below bw
        obtain ⟨g, off, rfl, c1, c2, c3⟩ := h5.1.block
        obtain ⟨ax, cx, e1⟩ := (h5.2 x (by simp)).1.form
        have HX := szBlock_any (left := r) (h5.2 x (by simp)) (hw x (by simp)) (by omega)
        rw [e1] at c3 HX
        subst hD
        have hA' := fun h => hA.succ (r := x) h
        clear h h5 hw hA e1 en
        generalize BlockSmall x = LS at *
        generalize x.ls.length = nx at *
        generalize x.kind = xk at *
        generalize x.name = xn at *
        go_wp2_with (go_at_call 69; refine HX.mono ?_)
        rintro e w2 ⟨rfl | ⟨q, hq, rfl, hs⟩, b2⟩
        · go_wp2
          go_ret
          exact ⟨.inl rfl, bw.trans (b2.mono bw.size)⟩
        · have HA := hA' hs
          have hq0 : ¬ ((q : Int) < 0) := by omega
          clear hA'
          go_wp2
          go_roundw
          case rel => exact ⟨D.length + 1, q, by omega, by omega, by go_num, rfl, bw.trans (b2.mono bw.size), HA⟩
          case measure => simp [intOf]; omega
      · obtain rfl : j = len := by omega
        have HA := hid_in (show BlocksSmall bs from ⟨by have := en.out; omega, AllTo.all (by rw [en.out]; exact hA)⟩)
        clear hA h hw
        go_wp2
        go_ret
        exact ⟨.inr ⟨r, hr, rfl, HA.out⟩, bw⟩
  · have hl' : (left : Int) - (len : Int) < 0 := by omega
    clear h hw
    go_enter Tryz.func31, Tryz.ntmps31
    go_wp2
    go_ret
    exact ⟨.inl rfl, Below.refl _ _⟩
set_option maxHeartbeats 1000000 in
set_option maxRecDepth 100000 in
theorem szSheet_any {left : Nat} {v : Value} {bs : List BAt} {w : World} (h : BlocksIn w v bs) (hw : BlocksWide bs) (hl : left ≤ 1048576) : Calls Tryz.prog 11 #[.agg #[v], .int .i64 (left : Int)] w fun e w' => SzQ left (BlocksSmall bs) w e w' := by
  obtain ⟨ao, cap, rfl⟩ := h.1.form
  have g6 : Below w.heap.size w (w.alloc (.cells #[.slice ao bs.length cap] 35)) := (Below.refl _ _).alloc (Nat.le_refl _) _
  have k1 := one_box (w := w) (cs := #[.slice ao bs.length cap]) (T := 35) 0
  simp only [List.getElem?_toArray, List.getElem?_cons_zero] at k1
  have HZ := szBlocks_any (left := left) (h.below g6) hw hl
  generalize BlocksSmall bs = BS at *
  generalize bs.length = n at *
  clear h hw
  go_enter Tryz.func11, Tryz.ntmps11
  go_wp2_with (go_at_call 31; refine HZ.mono ?_)
  rintro e w2 ⟨rfl | ⟨r, hr, rfl, hs⟩, b2⟩
  · go_wp2
    go_ret
    exact ⟨.inl rfl, g6.trans (b2.mono g6.size)⟩
  · have hr0 : ¬ ((r : Int) < 0) := by omega
    go_wp2
    go_ret
    exact ⟨.inr ⟨r, by omega, rfl, hs⟩, g6.trans (b2.mono g6.size)⟩
end Go.Proofs.YtlaejmehgaeobabGreatDoor
