import Derived.Test.YtlaejmehgaeobabGreatDoorValI
import Derived.WideMake
namespace Go.Proofs.YtlaejmehgaeobabGreatDoor
open Go.RowKit
/-- What a measure answers: -1, or what is left, and then all is small. -/
def SzQ (left : Nat) (small : Prop) (w : World) (e : Ending) (w' : World) : Prop := (e = .returned (.int .i64 (-1)) ∨ ∃ r : Nat, r ≤ left ∧ e = .returned (.int .i64 (r : Int)) ∧ small) ∧ Below w.heap.size w w'
def WordsTo (ws : List (List UInt8)) (k : Nat) : Prop := ∀ x ∈ ws.take k, x.length ≤ 1048576
theorem WordsTo.zero (ws : List (List UInt8)) : WordsTo ws 0 := by simp [WordsTo]
theorem WordsTo.succ {ws : List (List UInt8)} {j : Nat} (h : WordsTo ws j) (hj : j < ws.length) (hx : ws[j].length ≤ 1048576) : WordsTo ws (j + 1) := by
  unfold WordsTo at *
  rw [List.take_succ_eq_append_getElem hj]
  intro x hm
  rcases List.mem_append.1 hm with hm | hm
  · exact h x hm
  · rw [List.mem_singleton.1 hm]; exact hx
theorem WordsTo.all {ws : List (List UInt8)} (h : WordsTo ws ws.length) : ∀ x ∈ ws, x.length ≤ 1048576 := by
  unfold WordsTo at h; rwa [List.take_length] at h
/-- Strings that came in are no longer than an int tells. -/
def WordsWide (ws : List (List UInt8)) : Prop := ∀ x ∈ ws, x.length ≤ 9223372036854775807
theorem row_wide {w : World} {ao : Option Addr} {n m cap size : Nat} {xs : List Value} (h : HasRow w (.slice ao m cap) n size xs) : n ≤ 9223372036854775807 := by
  have := h.cap
  unfold maxLen at this
  omega
set_option maxHeartbeats 1000000 in
set_option maxRecDepth 100000 in
theorem szWords_any {a : Option Addr} {len cap left : Nat} {ws : List (List UInt8)} {w : World} (h : HasRow w (.slice a len cap) ws.length 1 (strs ws)) (hw : WordsWide ws) (hl : left ≤ 1048576) : Calls Tryz.prog 167 #[.slice a len cap, .int .i64 (left : Int)] w fun e w' => SzQ left (ws.length ≤ 1048576 ∧ ∀ x ∈ ws, x.length ≤ 1048576) w e w' := by
  have en := hid_in (show len = ws.length by obtain ⟨_, _, _, e, _⟩ := h; cases e; rfl)
  have hf : len ≤ 9223372036854775807 := by rw [en.out]; exact row_wide h
  have hf' : (len : Int) ≤ 9223372036854775807 := by omega
  by_cases hl1 : len ≤ left
  · have hl' : ¬ ((left : Int) - (len : Int) < 0) := by omega
    go_enter Tryz.func167, Tryz.ntmps167
    go_wp2
    go_loop [1, 5] (fun q i => ∃ j r : Nat, j ≤ len ∧ r ≤ left ∧ i = .int .i64 (j : Int) ∧ q = .int .i64 (r : Int) ∧ WordsTo ws j) (fun _ i => len - (intOf i).toNat)
    case atStart => exact ⟨0, left - len, by omega, by omega, rfl, by congr 1; omega, WordsTo.zero _⟩
    case round =>
      obtain ⟨j, r, hj, hr, rfl, rfl, hA⟩ := hrel
      by_cases hlt : j < len
      · have lj : j < ws.length := by have := en.out; omega
        obtain ⟨b, off, rfl, c1⟩ := h.word j lj
        have hy : (ByteArray.mk ws[j].toArray).size = ws[j].length := by simp [ByteArray.size]
        have hy2 := hw ws[j] (List.getElem_mem _)
        have hy1 := fun (h : ws[j].length ≤ 1048576) => hA.succ lj h
        rw [← hy] at hy2 hy1
        generalize (⟨ws[j].toArray⟩ : ByteArray) = y at *
        clear h hw hy hA
        have e1 : (y.size : Int) ≤ 9223372036854775807 := by omega
        by_cases hz : y.size ≤ r
        · have hA := hy1 (by omega)
          have hz' : ¬ ((r : Int) - (y.size : Int) < 0) := by omega
          clear hy1
          go_wp2
          go_round
          case rel => exact ⟨j + 1, r - y.size, by omega, by omega, by go_num, by congr 1; omega, hA⟩
          case measure => simp [intOf]; omega
        · have hz' : (r : Int) - (y.size : Int) < 0 := by omega
          clear hy1
          go_wp2
          go_ret
          exact ⟨.inl rfl, Below.refl _ _⟩
      · obtain rfl : j = len := by omega
        have HA := hid_in (WordsTo.all (en.out ▸ hA))
        have hl2 := hid_in (show ws.length ≤ 1048576 by have := en.out; omega)
        clear hA h hw
        go_wp2
        go_ret
        exact ⟨.inr ⟨r, hr, rfl, hl2.out, HA.out⟩, Below.refl _ _⟩
  · have hl' : (left : Int) - (len : Int) < 0 := by omega
    clear h hw
    go_enter Tryz.func167, Tryz.ntmps167
    go_wp2
    go_ret
    exact ⟨.inl rfl, Below.refl _ _⟩
def LineWide (x : LAt) : Prop := x.key.size ≤ 9223372036854775807 ∧ WordsWide x.ws
def LineSmall (x : LAt) : Prop := x.ws.length ≤ 1048576 ∧ ∀ y ∈ x.ws, y.length ≤ 1048576
set_option maxHeartbeats 1000000 in
set_option maxRecDepth 100000 in
theorem szLine_any {left : Nat} {x : LAt} {w : World} (h : LineIn w x) (hw : LineWide x) (hl : left ≤ 1048576) : Calls Tryz.prog 148 #[.agg #[.string x.key, x.v], .int .i64 (left : Int)] w fun e w' => SzQ left (LineSmall x) w e w' := by
  obtain ⟨ax, cx, e1⟩ := HasRow.form h
  unfold LineIn at h
  rw [e1] at h ⊢
  have g6 : Below w.heap.size w (w.alloc (.cells #[.string x.key, .slice ax x.ws.length cx] 213)) := (Below.refl _ _).alloc (Nat.le_refl _) _
  have h6 := h.below g6
  have k1 := one_box (w := w) (cs := #[.string x.key, .slice ax x.ws.length cx]) (T := 213) 0
  have k2 := one_box (w := w) (cs := #[.string x.key, .slice ax x.ws.length cx]) (T := 213) 1
  simp only [List.getElem?_toArray, List.getElem?_cons_zero, List.getElem?_cons_succ] at k1 k2
  have hk : (x.key.size : Int) ≤ 9223372036854775807 := by have := hw.1; omega
  have HZ := fun (l : Nat) (hl : l ≤ 1048576) => szWords_any (left := l) h6 hw.2 hl
  have hLS := hid_in (show (x.ws.length ≤ 1048576 ∧ ∀ y ∈ x.ws, y.length ≤ 1048576) = LineSmall x from rfl)
  rw [hLS.out] at HZ
  generalize LineSmall x = LS at *
  clear h hw e1 h6 hLS
  generalize x.ws.length = nx at *
  generalize x.key = xk at *
  by_cases h1 : xk.size ≤ left
  · have HZ' := HZ (left - xk.size) (by omega)
    have hc : ((left - xk.size : Nat) : Int) = (left : Int) - (xk.size : Int) := by omega
    rw [hc] at HZ'
    have h1' : ¬ ((left : Int) - (xk.size : Int) < 0) := by omega
    clear HZ
    go_enter Tryz.func148, Tryz.ntmps148
    go_wp2_with (go_at_call 167; refine HZ'.mono ?_)
    rintro e w2 ⟨rfl | ⟨r, hr, rfl, hs⟩, b2⟩
    · go_wp2
      go_ret
      exact ⟨.inl rfl, g6.trans (b2.mono g6.size)⟩
    · have hr0 : ¬ ((r : Int) < 0) := by omega
      go_wp2
      go_ret
      exact ⟨.inr ⟨r, by omega, rfl, hs⟩, g6.trans (b2.mono g6.size)⟩
  · have h1' : (left : Int) - (xk.size : Int) < 0 := by omega
    clear HZ
    go_enter Tryz.func148, Tryz.ntmps148
    go_wp2
    go_ret
    exact ⟨.inl rfl, g6⟩
def AllTo {α : Type} (p : α → Prop) (l : List α) (k : Nat) : Prop := ∀ x ∈ l.take k, p x
theorem AllTo.zero {α : Type} (p : α → Prop) (l : List α) : AllTo p l 0 := by simp [AllTo]
theorem AllTo.succ {α : Type} {p : α → Prop} {D T : List α} {r : α} (h : AllTo p (D ++ r :: T) D.length) (hr : p r) : AllTo p (D ++ r :: T) (D.length + 1) := by
  unfold AllTo at *
  rw [take_front] at h
  rw [take_one]
  intro x hx
  rcases List.mem_append.1 hx with hx | hx
  · exact h x hx
  · rw [List.mem_singleton.1 hx]; exact hr
theorem AllTo.all {α : Type} {p : α → Prop} {l : List α} (h : AllTo p l l.length) : ∀ x ∈ l, p x := by
  unfold AllTo at h; rwa [List.take_length] at h
end Go.Proofs.YtlaejmehgaeobabGreatDoor
