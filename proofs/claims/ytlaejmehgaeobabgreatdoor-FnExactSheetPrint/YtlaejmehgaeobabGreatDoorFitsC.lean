import Derived.Test.YtlaejmehgaeobabGreatDoorFitsB
namespace Go.Proofs.YtlaejmehgaeobabGreatDoor
open Go.RowKit
def yesB (l : List UInt8) : Bool := l == [121, 101, 115] || l == [110, 111]
def apartB (l : List UInt8) : Bool := l == [110, 111, 110, 101] || l == [98, 101, 114, 116, 104] || l == [122, 111, 110, 101]
/-- Whether a word is of a type, 1 to 6. -/
def fitsB (t : Int) (l : List UInt8) : Bool :=
  if t = 1 then numB l else if t = 2 then signB l else if t = 3 then nameB l else if t = 4 then decide (l.length ≤ 200) else if t = 5 then yesB l else apartB l
theorem six {t : Int} (h1 : 1 ≤ t) (h6 : t ≤ 6) : t = 1 ∨ t = 2 ∨ t = 3 ∨ t = 4 ∨ t = 5 ∨ t = 6 := by omega
theorem l2Fits_1 (s : ByteArray) (w : World) (hs : s.size ≤ 1048576) : Calls Tryz.prog 82 #[.int .i64 1, .string s] w fun e w' => e = .returned (.bool (numB s.data.toList)) ∧ Below w.heap.size w w' := by
  go_enter Tryz.func82, Tryz.ntmps82
  go_wp2_with (go_at_call 132; refine (l2NumberOk_any s _ hs).mono ?_; rintro e w1 ⟨rfl, b1⟩)
  go_ret
  exact ⟨rfl, b1⟩
theorem l2Fits_3 (s : ByteArray) (w : World) (hs : s.size ≤ 1048576) : Calls Tryz.prog 82 #[.int .i64 3, .string s] w fun e w' => e = .returned (.bool (nameB s.data.toList)) ∧ Below w.heap.size w w' := by
  go_enter Tryz.func82, Tryz.ntmps82
  go_wp2_with (go_at_call 47; refine (l2NameOk_any s _ hs).mono ?_; rintro e w ⟨rfl, rfl⟩)
  go_ret
  exact ⟨rfl, Below.refl _ _⟩
theorem l2Fits_4 (s : ByteArray) (w : World) : Calls Tryz.prog 82 #[.int .i64 4, .string s] w fun e w' => e = .returned (.bool (decide (s.data.toList.length ≤ 200))) ∧ Below w.heap.size w w' := by
  have e : s.data.toList.length = s.size := by simp
  rw [e]
  go_enter Tryz.func82, Tryz.ntmps82
  go_wp2
  go_ret
  exact ⟨ret_bool (decide_eq_decide.2 (by omega)), Below.refl _ _⟩
theorem l2Fits_5 (s : ByteArray) (w : World) : Calls Tryz.prog 82 #[.int .i64 5, .string s] w fun e w' => e = .returned (.bool (yesB s.data.toList)) ∧ Below w.heap.size w w' := by
  rw [← ByteArray.toList_eq]
  generalize hL : s.toList = L
  by_cases h1 : L = [121, 101, 115]
  · have h1' : (s.toList == [121, 101, 115]) = true := by rw [hL, beq_iff_eq]; exact h1
    have HB : yesB L = true := by subst h1; decide
    go_enter Tryz.func82, Tryz.ntmps82
    go_wp2
    go_ret
    exact ⟨ret_bool HB.symm, Below.refl _ _⟩
  · have h1' : (s.toList == [121, 101, 115]) = false := by rw [hL, beq_eq_false_iff_ne]; exact h1
    go_enter Tryz.func82, Tryz.ntmps82
    go_wp2
    go_ret
    exact ⟨ret_bool rfl, Below.refl _ _⟩
theorem l2Fits_6 (s : ByteArray) (w : World) : Calls Tryz.prog 82 #[.int .i64 6, .string s] w fun e w' => e = .returned (.bool (apartB s.data.toList)) ∧ Below w.heap.size w w' := by
  rw [← ByteArray.toList_eq]
  generalize hL : s.toList = L
  by_cases h1 : L = [110, 111, 110, 101]
  · have h1' : (s.toList == [110, 111, 110, 101]) = true := by rw [hL, beq_iff_eq]; exact h1
    have HB : apartB L = true := by subst h1; decide
    go_enter Tryz.func82, Tryz.ntmps82
    go_wp2
    go_ret
    exact ⟨ret_bool HB.symm, Below.refl _ _⟩
  · have h1' : (s.toList == [110, 111, 110, 101]) = false := by rw [hL, beq_eq_false_iff_ne]; exact h1
    by_cases h2 : L = [98, 101, 114, 116, 104]
    · have h2' : (s.toList == [98, 101, 114, 116, 104]) = true := by rw [hL, beq_iff_eq]; exact h2
      have HB : apartB L = true := by subst h2; decide
      go_enter Tryz.func82, Tryz.ntmps82
      go_wp2
      go_ret
      exact ⟨ret_bool HB.symm, Below.refl _ _⟩
    · have h2' : (s.toList == [98, 101, 114, 116, 104]) = false := by rw [hL, beq_eq_false_iff_ne]; exact h2
      go_enter Tryz.func82, Tryz.ntmps82
      go_wp2
      go_ret
      exact ⟨ret_bool rfl, Below.refl _ _⟩
theorem signB_yes {l : List UInt8} (h : numB l = true) : signB l = true := by unfold signB; rw [h]; rfl
theorem signB_no {l : List UInt8} (h : numB l = false) (h2 : (decide (1 < l.length) && l.head? == some 45 && l.tail != [48]) = false) : signB l = false := by unfold signB; rw [h, h2]; rfl
theorem signB_tail {l : List UInt8} (h : numB l = false) (h2 : (decide (1 < l.length) && l.head? == some 45 && l.tail != [48]) = true) : signB l = numB l.tail := by unfold signB; rw [h, h2]; simp
theorem hid_in {p : Prop} (h : p) : Hid p := h
theorem head_at (s : ByteArray) (h : 0 < s.size) : s.data.toList.head? = some s[0] := by
  have := drop_cons s 0 h
  rw [List.drop_zero] at this
  rw [this]; rfl
theorem l2NumberOk_as (s : ByteArray) (w : World) (hs : s.size ≤ 1048576) (b : Bool) (h : numB s.data.toList = b) : Calls Tryz.prog 132 #[.string s] w fun e w' => e = .returned (.bool b) ∧ Below w.heap.size w w' := by
  rw [← h]; exact l2NumberOk_any s w hs
theorem tail_bytes (s : ByteArray) : (s.extract 1 s.size).data.toList = s.data.toList.tail := by
  rw [bytes_drop]; simp
theorem signB_cut {l : List UInt8} {b : Bool} (h : numB l = false) (h1 : 1 < l.length) (h2 : l.head? = some 45) (h3 : ¬ l.tail = [48]) (hb : numB l.tail = b) : b = signB l := by
  rw [signB_tail h (by rw [h2]; simp [h1, h3]), hb]
theorem signB_zero {l : List UInt8} (h : numB l = false) (h3 : l.tail = [48]) : false = signB l := by
  rw [signB_no h (by rw [h3]; simp)]
theorem signB_short {l : List UInt8} (h : numB l = false) (h1 : ¬ 1 < l.length) : false = signB l := by
  rw [signB_no h (by simp [h1])]
theorem signB_head {l : List UInt8} (h : numB l = false) (h2 : ¬ l.head? = some 45) : false = signB l := by
  rw [signB_no h (by simp [h2])]
set_option maxHeartbeats 1000000 in
set_option maxRecDepth 100000 in
theorem l2Fits_2 (s : ByteArray) (w : World) (hs : s.size ≤ 1048576) : Calls Tryz.prog 82 #[.int .i64 2, .string s] w fun e w' => e = .returned (.bool (signB s.data.toList)) ∧ Below w.heap.size w w' := by
  cases hn : numB s.data.toList
  · by_cases h1 : 1 < s.size
    · have h1' : (1 : Int) < (s.size : Int) := by omega
      have hh := head_at s (by omega)
      have hl : 1 < s.data.toList.length := by have el : s.data.toList.length = s.size := by simp
                                               omega
      have ht := tail_bytes s
      have hxs : (s.extract 1 s.size).size ≤ 1048576 := by rw [ByteArray.size_extract]; omega
      by_cases h2 : s[0].toNat = 45
      · have h2' : ((s[0].toNat : Int) == 45) = true := by rw [beq_iff_eq]; omega
        have h2'' : s.data.toList.head? = some 45 := by rw [hh]; congr 1; exact UInt8.toNat_inj.1 h2
        by_cases h3 : s.data.toList.tail = [48]
        · have HB := hid_in (signB_zero hn h3)
          have h3' : ((s.extract 1 s.size).toList == [48]) = true := by rw [ByteArray.toList_eq, ht, h3]; rfl
          have H1 := fun W => l2NumberOk_as s W hs false hn
          clear hh h2'' h3 ht hn hl
          go_enter Tryz.func82, Tryz.ntmps82
          go_wp2_with (go_at_call 132; refine (H1 _).mono ?_; rintro e w1 ⟨rfl, b1⟩)
          go_ret
          exact ⟨ret_bool HB.out, b1⟩
        · have h3' : ((s.extract 1 s.size).toList == [48]) = false := by rw [ByteArray.toList_eq, ht, beq_eq_false_iff_ne]; exact h3
          cases hm : numB s.data.toList.tail
          all_goals
            have HB := hid_in (signB_cut hn hl h2'' h3 hm)
            have H1 := fun W => l2NumberOk_as s W hs false hn
            have H2 := fun W => l2NumberOk_as (s.extract 1 s.size) W hxs _ (ht ▸ hm)
            clear hh h2'' h3 ht hn hl hm
            go_enter Tryz.func82, Tryz.ntmps82
            go_wp2_with (go_at_call 132; refine (H1 _).mono ?_)
            rintro e w1 ⟨rfl, b1⟩
            go_wp2_with (go_at_call 132; refine (H2 _).mono ?_)
            rintro e w2 ⟨rfl, b2⟩
            go_wp2
            go_ret
            exact ⟨ret_bool HB.out, b1.trans (b2.mono b1.size)⟩
      · have h2' : ((s[0].toNat : Int) == 45) = false := by rw [beq_eq_false_iff_ne]; omega
        have HB := hid_in (signB_head hn (by rw [hh]; intro h; exact h2 (by rw [Option.some.inj h]; rfl)))
        have H1 := fun W => l2NumberOk_as s W hs false hn
        clear hh ht hn hl
        go_enter Tryz.func82, Tryz.ntmps82
        go_wp2_with (go_at_call 132; refine (H1 _).mono ?_; rintro e w1 ⟨rfl, b1⟩)
        go_ret
        exact ⟨ret_bool HB.out, b1⟩
    · have h1' : ¬ ((1 : Int) < (s.size : Int)) := by omega
      have HB := hid_in (signB_short hn (by rw [Array.length_toList]; exact h1))
      have H1 := fun W => l2NumberOk_as s W hs false hn
      clear hn
      go_enter Tryz.func82, Tryz.ntmps82
      go_wp2_with (go_at_call 132; refine (H1 _).mono ?_; rintro e w1 ⟨rfl, b1⟩)
      go_ret
      exact ⟨ret_bool HB.out, b1⟩
  · have HB := hid_in (signB_yes hn).symm
    have H1 := fun W => l2NumberOk_as s W hs true hn
    clear hn
    go_enter Tryz.func82, Tryz.ntmps82
    go_wp2_with (go_at_call 132; refine (H1 _).mono ?_; rintro e w1 ⟨rfl, b1⟩)
    go_ret
    exact ⟨ret_bool HB.out, b1⟩
theorem l2Fits_any (t : Int) (h1 : 1 ≤ t) (h6 : t ≤ 6) (s : ByteArray) (w : World) (hs : s.size ≤ 1048576) : Calls Tryz.prog 82 #[.int .i64 t, .string s] w fun e w' => e = .returned (.bool (fitsB t s.data.toList)) ∧ Below w.heap.size w w' := by
  rcases six h1 h6 with rfl | rfl | rfl | rfl | rfl | rfl
  · exact l2Fits_1 s w hs
  · exact l2Fits_2 s w hs
  · exact l2Fits_3 s w hs
  · exact l2Fits_4 s w
  · exact l2Fits_5 s w
  · exact l2Fits_6 s w
end Go.Proofs.YtlaejmehgaeobabGreatDoor
