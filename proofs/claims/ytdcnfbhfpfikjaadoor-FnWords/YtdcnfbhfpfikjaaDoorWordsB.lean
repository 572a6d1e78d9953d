import Derived.Test.YtdcnfbhfpfikjaaDoorWordsA
import Derived.Test.YtdcnfbhfpfikjaaDoorWordImplA
import Derived.Deep.RegionHeld3
import Derived.Deep.AppendLies
import Derived.Laws.OwnMore
import Derived.Laws.IdiomStrings
import Derived.Laws.BytesArg
import Derived.Deep.QuietTactic
import Derived.BigQuiet
import Derived.WalkSmall
namespace Go.Proofs.YtdcnfbhfpfikjaaDoor
open Go.RowKit
theorem bytes_drop (t : ByteArray) (k : Nat) : (t.extract k t.size).data.toList = t.data.toList.drop k := by
  rw [Lib.extract_data]; exact List.take_of_length_le (by simp)
theorem bytes_take (t : ByteArray) (k : Nat) : t.extract 0 k = ⟨(t.data.toList.take k).toArray⟩ := by
  apply ByteArray.ext; apply Array.toList_inj.1; rw [Lib.extract_data]; simp
theorem take_while (t : ByteArray) (k : Nat) (hk : k ≤ t.size) (hall : (t.data.toList.take k).all bareB = true) (hend : k = t.size ∨ ∃ h : k < t.size, bareB t[k] = false) : t.data.toList.takeWhile bareB = t.data.toList.take k := by
  have e : t.data.toList = t.data.toList.take k ++ t.data.toList.drop k := (List.take_append_drop k _).symm
  have h1 : ∀ x ∈ t.data.toList.take k, bareB x = true := List.all_eq_true.1 hall
  conv => lhs; rw [e]
  rw [List.takeWhile_append_of_pos h1]
  rcases hend with rfl | ⟨h, hb⟩
  · rw [List.drop_of_length_le (by simp)]; simp
  · rw [drop_cons t k h, List.takeWhile_cons]; simp [hb]
/-- What a scanner is asked for: the word at a text's head, and what stands behind it. -/
def Scan (t : ByteArray) (e : Ending) : Prop := ∃ (a b : ByteArray) (ok : Bool), e = .returned (.tuple #[.string a, .string b, .bool ok]) ∧
  ((wordOf t.data.toList = none ∧ ok = false) ∨ ∃ x n, wordOf t.data.toList = some (x, n) ∧ ok = true ∧ a = ⟨x.toArray⟩ ∧ b = t.extract n t.size)
theorem scan_bare (t : ByteArray) (h0 : 0 < t.size) (h34 : t[0].toNat ≠ 34) (k : Nat) (hk : k ≤ t.size) (hall : (t.data.toList.take k).all bareB = true) (hend : k = t.size ∨ ∃ h : k < t.size, bareB t[k] = false) :
    Scan t (.returned (.tuple #[.string (t.extract 0 k), .string (t.extract k t.size), .bool (decide (0 < k))])) := by
  have htw := take_while t k hk hall hend
  refine ⟨_, _, _, rfl, ?_⟩
  have hl := list1 t h0
  by_cases hk0 : k = 0
  · left
    subst hk0
    refine ⟨?_, rfl⟩
    have hb : bareB t[0] = false := by
      rcases hend with h | ⟨_, h⟩
      · omega
      · exact h
    rw [hl, wordOf, if_neg h34, if_pos hb]
  · right
    have hb : ¬ bareB t[0] = false := by
      intro hb
      have hm : t[0] ∈ t.data.toList.take k := by
        rw [hl]; match k, hk0 with | k + 1, _ => simp
      have := List.all_eq_true.1 hall _ hm
      rw [hb] at this; exact Bool.noConfusion this
    refine ⟨t.data.toList.take k, k, ?_, by simp; omega, bytes_take t k, rfl⟩
    rw [← htw]
    have : k = (t.data.toList.takeWhile bareB).length := by rw [htw]; simp; omega
    conv => rhs; rw [this]
    conv => lhs; rw [hl]
    rw [wordOf, if_neg h34, if_neg hb, ← hl]
set_option maxHeartbeats 1000000 in
theorem bareScan_any (t : ByteArray) (w : World) (h0 : 0 < t.size) (h34 : t[0].toNat ≠ 34) (hs : t.size ≤ 1048576) :
    Calls Tryd.prog 124 #[.agg #[], .string t] w fun e w' => Scan t e ∧ Below w.heap.size w w' := by
  have HS := fun k hk hall hend => (show Hid (Scan t (.returned (.tuple #[.string (t.extract 0 k), .string (t.extract k t.size), .bool (decide (0 < k))]))) from scan_bare t h0 h34 k hk hall hend)
  clear h34
  go_enter Tryd.func124, Tryd.ntmps124
  go_wp2
  go_loop [7] (fun i => ∃ k : Nat, k ≤ t.size ∧ i = .int .i64 k ∧ Hid ((t.data.toList.take k).all bareB = true)) (fun i => t.size - (intOf i).toNat)
  case atStart => exact ⟨0, Nat.zero_le _, rfl, by show _ = _; simp⟩
  case round =>
    obtain ⟨k, hk, rfl, hall⟩ := hrel
    by_cases hlt : k < t.size
    · have H := isBare_any t[k] (w.alloc (.cells #[] 90))
      cases hb : bareB t[k] <;> rw [hb] at H
      · have HF : Hid (Scan t (.returned (.tuple #[.string (t.extract 0 k), .string (t.extract k t.size), .bool (decide (0 < k))]))) := HS k hk hall.out (Or.inr ⟨hlt, hb⟩)
        clear HS hb
        go_wp2_with (go_at_call 54; refine H.mono ?_; rintro e w' ⟨rfl, rfl⟩)
        go_region_held3 (fun _ => True) (first | trivial | exact True.intro)
          (first | (go_at_call 33; refine (clone_any (t.extract 0 k) _ ?_).mono ?_; (simp; omega); rintro e w1 ⟨rfl, b1⟩))
        all_goals
          go_wp2
          go_ret3
          exact ⟨HF.out, (((Below.refl _ w).alloc (Nat.le_refl _) _).drew).trans (b1.mono (by simp))⟩
      · have HA : Hid ((t.data.toList.take (k + 1)).all bareB = true) := by show _ = _; rw [all_snoc t k hlt, hall.out, hb]; rfl
        clear HS hb
        go_wp2_with (go_at_call 54; refine H.mono ?_; rintro e w' ⟨rfl, rfl⟩)
        go_round
        case rel => exact ⟨k + 1, by omega, by go_num, HA⟩
        case measure => simp [intOf]; omega
    · have HF : Hid (Scan t (.returned (.tuple #[.string (t.extract 0 k), .string (t.extract k t.size), .bool (decide (0 < k))]))) := HS k hk hall.out (Or.inl (by omega))
      clear HS
      go_wp2
      go_region_held3 (fun _ => True) (first | trivial | exact True.intro)
        (first | (go_at_call 33; refine (clone_any (t.extract 0 k) _ ?_).mono ?_; (simp; omega); rintro e w1 ⟨rfl, b1⟩))
      all_goals
        go_wp2
        go_ret3
        exact ⟨HF.out, (((Below.refl _ w).alloc (Nat.le_refl _) _).drew).trans (b1.mono (by simp))⟩
theorem qB_unq (L : List UInt8) (c : UInt8) (r : List UInt8) (hL : L = c :: r) (h34 : c.toNat ≠ 34) : unq L = match qB L with | none => none | some p => (unq (L.drop p.2)).map (fun q => (p.1 :: q.1, q.2 + p.2)) := by
  subst hL
  rw [unq_cons, if_neg h34]
  by_cases hp : plainB c = true
  · have := plainB_true hp
    rw [if_neg (by omega), if_pos (by omega)]
    simp [qB, hp]
  · have hp' : plainB c = false := by simpa using hp
    by_cases h92 : c.toNat = 92
    · rw [if_pos h92]
      match r with
      | [] => simp [unqH, qB, hp', h92]
      | [_] => simp [unqH, qB, hp', h92]
      | a :: b :: r' =>
        rw [unqH]
        by_cases hh : hexV a < 16 ∧ hexV b < 16
        · simp [qB, hp', h92, hh]
        · simp [qB, hp', h92, hh]
    · rw [if_neg h92, if_neg (fun h => by rw [plainB_mk (by omega)] at hp'; exact Bool.noConfusion hp')]
      simp [qB, hp', h92]
theorem qB_len (L : List UInt8) (p : UInt8 × Nat) (h : qB L = some p) : 1 ≤ p.2 ∧ p.2 ≤ L.length := by
  match L, h with
  | [c], h => simp only [qB] at h; split at h <;> simp at h; subst h; simp
  | [c, _], h => simp only [qB] at h; split at h <;> simp at h; subst h; simp
  | c :: a :: b :: r, h =>
    simp only [qB] at h
    split at h
    · simp at h; subst h; simp
    · split at h
      · split at h
        · simp at h; subst h; simp
        · simp at h
      · simp at h
theorem Uq_qB (t : ByteArray) (i : Nat) (acc : List UInt8) (h : i < t.size) (h34 : t[i].toNat ≠ 34) :
    Uq t.data.toList i acc = match qB (t.data.toList.drop i) with | none => none | some p => Uq t.data.toList (i + p.2) (acc ++ [p.1]) := by
  unfold Uq
  rw [qB_unq (t.data.toList.drop i) _ _ (drop_cons t i h) h34]
  cases qB (t.data.toList.drop i) with
  | none => rfl
  | some p =>
    simp only [Option.map_map, List.drop_drop]
    congr 1; funext q; simp; omega
/-- What quoteScanner's scan gives. -/
theorem scan_quote (t : ByteArray) (h0 : 0 < t.size) (h34 : t[0].toNat = 34) (x : List UInt8) (n : Nat) (h : Uq t.data.toList 1 [] = some (x, n)) :
    Scan t (.returned (.tuple #[.string ⟨x.toArray⟩, .string (t.extract n t.size), .bool true])) := by
  refine ⟨_, _, _, rfl, Or.inr ⟨x, n, ?_, rfl, rfl, rfl⟩⟩
  rw [list1 t h0, wordOf, if_pos h34]
  unfold Uq at h
  cases hu : unq (t.data.toList.drop 1) with
  | none => rw [hu] at h; simp at h
  | some p => rw [hu] at h; simp at h; obtain ⟨rfl, rfl⟩ := h; simp; omega
theorem scan_quote_no (t : ByteArray) (h0 : 0 < t.size) (h34 : t[0].toNat = 34) (h : Uq t.data.toList 1 [] = none) (a b : ByteArray) :
    Scan t (.returned (.tuple #[.string a, .string b, .bool false])) := by
  refine ⟨_, _, _, rfl, Or.inl ⟨?_, rfl⟩⟩
  rw [list1 t h0, wordOf, if_pos h34]
  unfold Uq at h
  cases hu : unq (t.data.toList.drop 1) with
  | none => rfl
  | some p => rw [hu] at h; simp at h
theorem info5 : (Tryd.prog.info? 5).map (fun i => (i.zero, i.size, i.bytes)) = some (some (.int .u8 0), 1, 1) := by kernel_rfl
theorem news1 (w : World) (x : Value) (T : TypeId) : ∀ j u, [x][j]? = some u → (w.alloc (.cells #[x] T)).cell? ((⟨w.heap.size, 0, none⟩ : Addr).add j) = some u :=
  World.news_of_block (cs := #[x]) (t := T) (fr := (0, 0)) (heap_alloc_new w _)
theorem conv_own (w1 : World) (v : Value) (B : Nat) (l : List UInt8) (n : Nat) (h : w1.ownsRow B 5 1 v n (Lib.byteCells l)) :
    (convert 22 9 v).run Tryd.prog w1 = .ok (.string ⟨l.toArray⟩) w1 := by
  have hlen : l.length = n := by have := h.1; simpa [Lib.byteCells_length] using this
  subst hlen
  rcases h.2 with ⟨rfl, h0⟩ | ⟨g, cap, cur, rfl, hrest⟩
  · have : l = [] := List.length_eq_zero_iff.1 h0
    subst this
    exact run_convert_bytes_nil w1 22 5 Tryd.underlying22 Tryd.underlying5 0 0 9 Tryd.underlying9
  · refine run_convert_bytes_back w1 22 9 5 ⟨g, 0, none⟩ cap l Tryd.underlying22 Tryd.underlying5 Tryd.underlying9 fun j hj => ?_
    refine h.cells rfl j _ ?_
    simp only [Lib.byteCells, List.getElem?_map, List.getElem?_eq_getElem hj]; rfl
theorem own_drewN {w : World} {base : Nat} {e : TypeId} {size : Nat} {v : Value} {n : Nat} {xs : List Value} (h : w.ownsRow base e size v n xs) (k : Nat) : (w.drewN k).ownsRow base e size v n xs := by
  induction k with
  | zero => exact h
  | succ k ih => exact ih.drew
set_option maxHeartbeats 2000000 in
set_option maxRecDepth 100000 in
theorem quoteScan_any (t : ByteArray) (w : World) (h0 : 0 < t.size) (h34 : t[0].toNat = 34) (hs : t.size ≤ 1048576) :
    Calls Tryd.prog 122 #[.agg #[], .string t] w fun e w' => Scan t e ∧ Below w.heap.size w w' := by
  obtain ⟨i0, hi, hz0, hz1, hz2⟩ := info_parts info5
  have HY : ∀ x n, Hid (Uq t.data.toList 1 [] = some (x, n)) → Hid (Scan t (.returned (.tuple #[.string ⟨x.toArray⟩, .string (t.extract n t.size), .bool true]))) := fun x n h => scan_quote t h0 h34 x n h
  have HN : Hid (Uq t.data.toList 1 [] = none) → ∀ a b, Hid (Scan t (.returned (.tuple #[.string a, .string b, .bool false]))) := fun h a b => scan_quote_no t h0 h34 h a b
  clear h34
  go_enter Tryd.func122, Tryd.ntmps122
  go_wp2
  go_loopw [7, 8] (fun v i wr => ∃ (k : Nat) (acc : List UInt8), k ≤ t.size ∧ acc.length ≤ k ∧ i = .int .i64 k ∧ wr.ownsRow w.heap.size 5 1 v acc.length (Lib.byteCells acc) ∧ Below w.heap.size w wr ∧ Hid (Uq t.data.toList k acc = Uq t.data.toList 1 [])) (fun _ i _ => t.size - (intOf i).toNat)
  case atStart => exact ⟨1, [], by omega, by simp, rfl, World.ownsRow_nil _ _ _ _, (Below.refl _ _).alloc (Nat.le_refl _) _, rfl⟩
  case round =>
    obtain ⟨k, acc, hk, hal, rfl, hown, hbw, hU⟩ := hrel
    have hsz := hbw.size
    by_cases hlt : k < t.size
    · by_cases h34 : t[k].toNat = 34
      · have h34' : ((t[k].toNat : Int) != 34) = false := by rw [bne_eq_false_iff_eq]; omega
        have HF : Hid _ := HY acc (k + 1) (by show _ = _; rw [← hU.out]; exact Uq_mark t k acc hlt h34)
        clear HY HN hU h34
        have hcv := fun n => conv_own (wr.drewN n) _ _ _ _ (own_drewN hown n)
        have q2 : ¬ t.size ≤ k := by omega
        go_wp2
        go_quiet (fail)
        go_wp2
        go_ret3
        exact ⟨HF.out, below_drewN hbw _⟩
      · have h34' : ((t[k].toNat : Int) != 34) = true := by rw [bne_iff_ne]; omega
        have HQ := Uq_qB t k acc hlt h34
        have H := fun W => quotedByte_any (t.extract k t.size) W (by simp; omega) (by simp; omega)
        rw [bytes_drop] at H
        have HL := qB_len (t.data.toList.drop k)
        clear h34
        cases hq : qB (t.data.toList.drop k) with
        | none =>
          rw [hq] at HQ H
          simp only [qV] at H
          have HF := HN (by show _ = _; rw [← hU.out]; exact HQ)
          clear HY HN hU HQ HL hq
          go_wp2_with (go_at_call 123; refine (H _).mono ?_; rintro e w' ⟨rfl, rfl⟩)
          go_ret3
          exact ⟨HF _ _, hbw⟩
        | some p =>
          obtain ⟨b, n⟩ := p
          rw [hq] at HQ H
          simp only [qV] at H
          have hn := HL _ hq
          have HU' : Hid (Uq t.data.toList (k + n) (acc ++ [b]) = Uq t.data.toList 1 []) := by show _ = _; rw [← hU.out]; exact HQ.symm
          clear HY HN hU HQ HL hq
          have hn0 : ((n : Int) == 0) = false := by rw [beq_eq_false_iff_ne]; omega
          have hn1 : n ≤ t.size - k := by have := hn.2; simpa using this
          have hn2 := hn.1
          clear hn
          go_wp2_with (first | (go_at_call 123; refine (H _).mono ?_; rintro e wr ⟨rfl, rfl⟩) | (at_builtin; refine wpList_append_lies _ rfl _ _ 22 rfl w.heap.size 5 i0 (.int .u8 0) 1 1 Tryd.underlying22 hi hz0 hz1 hz2 rfl (by decide) _ acc.length _ rfl (hown.alloc _) ⟨wr.heap.size, 0, none⟩ 1 1 [.int .u8 (b.toNat : Int)] rfl rfl (news1 wr _ 5) ?c2 (by decide) ?c3 ?c4 ?c5 (wr.heap.size + 1) (by simp) ?_))
          case c2 => intro u hu; simp at hu; subst hu; rfl
          case c3 => unfold maxLen; omega
          case c4 => omega
          case c5 => simp; omega
          intro g cap w1 hown1 hgrow hat hlt1
          go_wp2
          go_roundw
          case rel =>
            refine ⟨k + n, acc ++ [b], by omega, by simp; omega, by go_num, ?_, (hbw.alloc (by omega) _).grown hgrow (by simp; omega) (fun k hk => (hown.lt k hk).1), HU'⟩
            rw [Lib.byteCells_append, List.length_append]; exact hown1
          case measure => simp [intOf]; omega
    · have HF := HN (by show _ = _; rw [← hU.out]; exact Uq_end t k acc hlt)
      clear HY HN hU
      go_wp2
      go_ret3
      exact ⟨HF _ _, hbw⟩
end Go.Proofs.YtdcnfbhfpfikjaaDoor
