import Derived.Test.YtpdahhnjhggocabGreatDoorBun16
import Derived.Laws.Rows
namespace Go.Proofs.YtpdahhnjhggocabGreatDoor
open Go.RowKit
theorem endOk_at (s : ByteArray) (m : Nat) : endOk (s.data.toList.drop m) = decide (¬ (m < s.size ∧ ∀ h : m < s.size, s[m].toNat ≠ 32 ∧ s[m].toNat ≠ 35)) := by
 by_cases h : m < s.size
 ·rw [drop_cons s m h]
  by_cases h1 : s[m].toNat = 32 ∨ s[m].toNat = 35
  ·rw [endOk, decide_eq_true h1, decide_eq_true]; intro hh; have := hh.2 h; omega
  ·rw [endOk, decide_eq_false h1, decide_eq_false]; simp only [Classical.not_not]; exact ⟨h, fun _ => by omega⟩
 ·rw [List.drop_of_length_le (by simp; omega), endOk, decide_eq_true]; exact fun hh => h hh.1
theorem end_cases (s : ByteArray) (m : Nat) (hb : ¬ (m < s.size ∧ ∀ h : m < s.size, s[m].toNat ≠ 32 ∧ s[m].toNat ≠ 35)) : ¬ m < s.size ∨ (∃ h : m < s.size, ((s[m].toNat : Int) != 32) = false) ∨ (∃ h : m < s.size, ((s[m].toNat : Int) != 32) = true ∧ ((s[m].toNat : Int) != 35) = false) := by
 by_cases h : m < s.size
 ·right
  by_cases h1 : s[m].toNat = 32
  ·exact Or.inl ⟨h, by rw [bne_eq_false_iff_eq]; omega⟩
  ·refine Or.inr ⟨h, by rw [bne_iff_ne]; omega, ?_⟩
   by_cases h2 : s[m].toNat = 35
   ·rw [bne_eq_false_iff_eq]; omega
   ·exact absurd ⟨h, fun _ => ⟨h1, h2⟩⟩ hb
 ·exact Or.inl h
theorem midw_take (s : ByteArray) (k j : Nat) : s.extract k j = ⟨((s.data.toList.drop k).take (j - k)).toArray⟩ := by
 apply ByteArray.ext; apply Array.toList_inj.1; rw [Lib.extract_data]
theorem midw_snoc (s : ByteArray) (k j : Nat) (hk : k ≤ j) (h : j < s.size) : (s.data.toList.drop k).take (j + 1 - k) = (s.data.toList.drop k).take (j - k) ++ [s[j]] := by
 rw [show j + 1 - k = (j - k) + 1 from by omega, List.take_succ_eq_append_getElem (by simp; omega)]
 congr 2
 simp only [List.getElem_drop]
 have : k + (j - k) = j := by omega
 simp only [this]; rfl
theorem mid_while (s : ByteArray) (k j : Nat) (hk : k ≤ j) (hj : j ≤ s.size) (hall : ((s.data.toList.drop k).take (j - k)).all bareB = true) (hend : j = s.size ∨ ∃ h : j < s.size, bareB s[j] = false) : (s.data.toList.drop k).takeWhile bareB = (s.data.toList.drop k).take (j - k) := by
 have e : s.data.toList.drop k = (s.data.toList.drop k).take (j - k) ++ s.data.toList.drop j := by
  have := (List.take_append_drop (j - k) (s.data.toList.drop k)).symm
  rw [List.drop_drop, show k + (j - k) = j from by omega] at this; exact this
 have h1 : ∀ x ∈ (s.data.toList.drop k).take (j - k), bareB x = true := List.all_eq_true.1 hall
 conv => lhs; rw [e]
 rw [List.takeWhile_append_of_pos h1]
 rcases hend with rfl | ⟨h, hb⟩
 ·rw [List.drop_of_length_le (l := s.data.toList) (i := s.size) (by simp)]; simp
 ·rw [drop_cons s j h, List.takeWhile_cons]; simp [hb]
theorem word_quote (c : UInt8) (r : List UInt8) (h : c.toNat = 34) : wordOf (c :: r) = (unq r).map (fun p => (p.1, p.2 + 1)) := by rw [wordOf, if_pos h]
theorem word_bare (s : ByteArray) (k j : Nat) (h : k < s.size) (h34 : s[k].toNat ≠ 34) (hk : k < j) (hj : j ≤ s.size) (hall : ((s.data.toList.drop k).take (j - k)).all bareB = true) (hend : j = s.size ∨ ∃ h : j < s.size, bareB s[j] = false) :
  wordOf (s[k] :: s.data.toList.drop (k + 1)) = some ((s.data.toList.drop k).take (j - k), j - k) := by
 have hw := mid_while s k j (by omega) hj hall hend
 have hb : ¬ bareB s[k] = false := by
  intro hb
  have hm : s[k] ∈ (s.data.toList.drop k).take (j - k) := by
   rw [drop_cons s k h, show j - k = (j - k - 1) + 1 from by omega]; simp
  have := List.all_eq_true.1 hall _ hm
  rw [hb] at this; exact Bool.noConfusion this
 rw [wordOf, if_neg h34, if_neg hb, ← drop_cons s k h, hw]
 simp; omega
theorem word_none (s : ByteArray) (k : Nat) (h : k < s.size) (h34 : s[k].toNat ≠ 34) (hb : bareB s[k] = false) : wordOf (s[k] :: s.data.toList.drop (k + 1)) = none := by
 rw [wordOf, if_neg h34, if_pos hb]
theorem drop_add (L : List UInt8) (k n : Nat) (c : UInt8) (r : List UInt8) (h : L.drop k = c :: r) : (c :: r).drop n = L.drop (k + n) := by
 rw [← h, List.drop_drop]
set_option maxHeartbeats 16000000 in
set_option maxRecDepth 100000 in
theorem specWords_any (s : ByteArray) (w : World) (hs : s.size ≤ 1048576) : Calls Tryz.prog 45 #[.string s] w fun e w' => CutPost (cutL s.data.toList) w e w' := by
 obtain ⟨i0, hi, hz0, hz1, hz2⟩ := info_parts info9
 have HC : Hid (Cut [] s.data.toList (cutL s.data.toList)) := Cut.start _
 generalize cutL s.data.toList = R at *
 go_enter Tryz.func45, Tryz.ntmps45
 go_wp2
 go_loopw [5] (fun i wr => ∃ (k : Nat) (acc : List (List UInt8)) (ao : Option Addr) (cap : Nat), k ≤ s.size ∧ acc.length ≤ 8 ∧ i = .int .i64 k ∧ wr.heap[w.heap.size + 1 + 1]? = some (.cells #[.slice ao acc.length cap, .bool false] 66 (0, 0)) ∧ wr.ownsRow (w.heap.size + 1 + 1 + 1) 9 1 (.slice ao acc.length cap) acc.length (strs acc) ∧ Below (w.heap.size + 1 + 1) ((w.alloc (.cells #[.slice none 0 0, .bool false] 66)).alloc (.cells #[.slice none 0 0, .bool true] 66)) wr ∧ Hid (Cut acc (s.data.toList.drop k) R)) (fun i _ => s.size - (intOf i).toNat)
 case atStart =>
  refine ⟨0, [], none, 0, by omega, by simp, rfl, ?_, World.ownsRow_nil _ _ _ _, (Below.refl _ _).alloc (by simp) _, HC⟩
  have := heap_alloc_new ((w.alloc (.cells #[.slice none 0 0, .bool false] 66)).alloc (.cells #[.slice none 0 0, .bool true] 66)) (.cells #[.slice none 0 0, .bool false] 66)
  simpa using this
 case round =>
  obtain ⟨k, acc, ao, cap, hk, hal, rfl, hb2, hown, hbw, hC⟩ := hrel
  clear HC
  have hsz3 : w.heap.size + 1 + 1 < wr.heap.size := (Array.getElem?_eq_some_iff.1 hb2).1
  have c20 : wr.cell? ⟨w.heap.size + 1 + 1, 0, none⟩ = some (.slice ao acc.length cap) := by rw [Lib.cell_of_heap hb2]; rfl
  have c21 : wr.cell? ⟨w.heap.size + 1 + 1, 1, none⟩ = some (.bool false) := by rw [Lib.cell_of_heap hb2]; rfl
  have hr0 : wr.cell? ⟨w.heap.size, 0, none⟩ = some (.slice none 0 0) := by rw [hbw.cell (by simp; omega)]; simp
  have hr1 : wr.cell? ⟨w.heap.size, 1, none⟩ = some (.bool false) := by rw [hbw.cell (by simp; omega)]; simp
  have hf0 : wr.frozen? ⟨w.heap.size, 0, none⟩ = false := by rw [hbw.frozen (by simp; omega)]; simp
  have hf1 : wr.frozen? ⟨w.heap.size, 1, none⟩ = false := by rw [hbw.frozen (by simp; omega)]; simp
  have hs0 : wr.cell? ⟨w.heap.size + 1, 0, none⟩ = some (.slice none 0 0) := by rw [hbw.cell (by simp)]; simp
  have hs1 : wr.cell? ⟨w.heap.size + 1, 1, none⟩ = some (.bool true) := by rw [hbw.cell (by simp)]; simp
  have hbA : Below (w.heap.size + 1) (w.alloc (.cells #[.slice none 0 0, .bool false] 66)) wr := ((Below.refl _ (w.alloc (.cells #[.slice none 0 0, .bool false] 66))).alloc (by simp) _).trans (hbw.mono (by omega))
  have hownA := own_mono hown (show w.heap.size + 1 ≤ w.heap.size + 1 + 1 + 1 by omega)
  by_cases hlt : k < s.size
  ·have hd := drop_cons s k hlt
   rw [hd] at hC
   by_cases h32 : s[k].toNat = 32
   ·have h32' : ((s[k].toNat : Int) == 32) = true := by rw [beq_iff_eq]; omega
    have HC2 : Hid (Cut acc (s.data.toList.drop (k + 1)) R) := hC.out.space h32
    clear hC h32 hd
    go_wp2
    go_roundw
    case rel => exact ⟨k + 1, acc, ao, cap, by omega, hal, by go_num, hb2, hown, hbw, HC2⟩
    case measure => simp [intOf]; omega
   ·have h32' : ((s[k].toNat : Int) == 32) = false := by rw [beq_eq_false_iff_ne]; omega
    by_cases h35 : s[k].toNat = 35
    ·have h35' : ((s[k].toNat : Int) == 35) = true := by rw [beq_iff_eq]; omega
     have hR : Hid (R = some acc) := hC.out.hash h35
     clear hC h32 hd h35
     go_wp2
     exact bodyPost_ret (v := .agg #[.slice ao acc.length cap, .bool false]) (by simp [results, Tryz.results45, go_sem, hr0, hr1]) rfl (cut_done hR.out hownA hbA _ _)
    ·have h35' : ((s[k].toNat : Int) == 35) = false := by rw [beq_eq_false_iff_ne]; omega
     by_cases h34 : s[k].toNat = 34
     ·have h34' : ((s[k].toNat : Int) == 34) = true := by rw [beq_iff_eq]; omega
      have HQ := l1Quoted_any (s.extract (k + 1) s.size) wr (by simp; omega)
      rw [bytes_drop] at HQ
      have hwq := word_quote s[k] (s.data.toList.drop (k + 1)) h34
      cases hu : unq (s.data.toList.drop (k + 1)) with
      | none =>
       rw [hu] at hwq HQ
       have hR : Hid (R = none) := hC.out.none h32 h35 hwq
       simp only [qR] at HQ
       clear hC h32 hd h35 h34 hwq hu
       go_wp2_with (go_at_call 103; refine HQ.mono ?_)
       rintro e w1 ⟨rfl, b1⟩
       have hr0' : w1.cell? ⟨w.heap.size, 0, none⟩ = some (.slice none 0 0) := by rw [b1.cell (by simp; omega)]; exact hr0
       have hr1' : w1.cell? ⟨w.heap.size, 1, none⟩ = some (.bool false) := by rw [b1.cell (by simp; omega)]; exact hr1
       have hf0' : w1.frozen? ⟨w.heap.size, 0, none⟩ = false := by rw [b1.frozen (by simp; omega)]; exact hf0
       have hf1' : w1.frozen? ⟨w.heap.size, 1, none⟩ = false := by rw [b1.frozen (by simp; omega)]; exact hf1
       have hs0' : w1.cell? ⟨w.heap.size + 1, 0, none⟩ = some (.slice none 0 0) := by rw [b1.cell (by simp; omega)]; exact hs0
       have hs1' : w1.cell? ⟨w.heap.size + 1, 1, none⟩ = some (.bool true) := by rw [b1.cell (by simp; omega)]; exact hs1
       have hbA' := hbA.trans (b1.mono (show w.heap.size + 1 ≤ wr.heap.size by omega))
       clear HQ
       go_wp2
       exact bodyPost_ret (v := .agg #[.slice none 0 0, .bool true]) (by simp [results, Tryz.results45, go_sem, hr0', hr1']) rfl (cut_bad hR.out hbA' _ _)
      | some p =>
       obtain ⟨x, n⟩ := p
       rw [hu] at hwq HQ
       have hl := unq_len _ _ _ _ (Nat.le_refl _) hu
       rw [List.length_drop] at hl
       have hl1 : n ≤ s.size - (k + 1) := by have := hl.2.1; simpa using this
       have hl2 : 1 ≤ n := hl.1
       simp only [Option.map_some] at hwq
       have hda : (s[k] :: s.data.toList.drop (k + 1)).drop (n + 1) = s.data.toList.drop (k + 1 + n) := by rw [drop_add _ k (n + 1) _ _ hd, show k + (n + 1) = k + 1 + n from by omega]
       have HNO : ¬ (endOk (s.data.toList.drop (k + 1 + n)) = true ∧ x.length ≤ 200 ∧ acc.length < 8) → Hid (R = none) := fun hno => hC.out.no h32 h35 hwq (by rw [hda]; exact hno)
       have HYES : (endOk (s.data.toList.drop (k + 1 + n)) = true ∧ x.length ≤ 200 ∧ acc.length < 8) → Hid (Cut (acc ++ [x]) (s.data.toList.drop (k + 1 + n)) R) := fun hy => by have h := hC.out.word h32 h35 hwq (by rw [hda]; exact hy); rw [hda] at h; exact h
       simp only [qR] at HQ
       obtain ⟨a, ha⟩ : ∃ a : ByteArray, a = ⟨x.toArray⟩ := ⟨_, rfl⟩
       rw [← ha] at HQ
       have hax : a.size = x.length := by rw [ha]; rfl
       have HA : Hid (a = ⟨x.toArray⟩) := ha
       have hn0 : ((n : Int) == 0) = false := by rw [beq_eq_false_iff_ne]; omega
       clear hC h32 hd h35 h34 hwq hu hl ha hda
       go_wp2_with (go_at_call 103; refine HQ.mono ?_)
       rintro e w1 ⟨rfl, b1⟩
       have hr0' : w1.cell? ⟨w.heap.size, 0, none⟩ = some (.slice none 0 0) := by rw [b1.cell (by simp; omega)]; exact hr0
       have hr1' : w1.cell? ⟨w.heap.size, 1, none⟩ = some (.bool false) := by rw [b1.cell (by simp; omega)]; exact hr1
       have hf0' : w1.frozen? ⟨w.heap.size, 0, none⟩ = false := by rw [b1.frozen (by simp; omega)]; exact hf0
       have hf1' : w1.frozen? ⟨w.heap.size, 1, none⟩ = false := by rw [b1.frozen (by simp; omega)]; exact hf1
       have hs0' : w1.cell? ⟨w.heap.size + 1, 0, none⟩ = some (.slice none 0 0) := by rw [b1.cell (by simp; omega)]; exact hs0
       have hs1' : w1.cell? ⟨w.heap.size + 1, 1, none⟩ = some (.bool true) := by rw [b1.cell (by simp; omega)]; exact hs1
       have c20' : w1.cell? ⟨w.heap.size + 1 + 1, 0, none⟩ = some (.slice ao acc.length cap) := by rw [b1.cell (by simp; omega)]; exact c20
       have hbA' := hbA.trans (b1.mono (show w.heap.size + 1 ≤ wr.heap.size by omega))
       have hbw' := hbw.trans (b1.mono (show w.heap.size + 1 + 1 ≤ wr.heap.size by omega))
       have hown' := own_below hown b1
       have hb2' : w1.heap[w.heap.size + 1 + 1]? = some (.cells #[.slice ao acc.length cap, .bool false] 66 (0, 0)) := by rw [b1.block _ (by omega)]; exact hb2
       have hsz1 := b1.size
       clear HQ hr0 hr1 hf0 hf1 hs0 hs1 c20 c21 hb2 hbA hbw hown hownA b1
       have hE : endOk (s.data.toList.drop (k + 1 + n)) = decide (¬ ((k + 1 + n) < s.size ∧ ∀ h : (k + 1 + n) < s.size, s[(k + 1 + n)].toNat ≠ 32 ∧ s[(k + 1 + n)].toNat ≠ 35)) := endOk_at s (k + 1 + n)
       by_cases hbad : (k + 1 + n) < s.size ∧ ∀ h : (k + 1 + n) < s.size, s[(k + 1 + n)].toNat ≠ 32 ∧ s[(k + 1 + n)].toNat ≠ 35
       ·obtain ⟨hm, hm2⟩ := hbad
        have hm3 := hm2 hm
        have hR := HNO (fun h => by have h1 := h.1; rw [hE, decide_eq_true_iff] at h1; exact h1 ⟨hm, hm2⟩)
        have e0 : ((k : Int) + 1 + (n : Int) : Int) < (s.size : Int) := by omega
        have e1 : ((s[(k + 1 + n)].toNat : Int) != 32) = true := by rw [bne_iff_ne]; omega
        have e2 : ((s[(k + 1 + n)].toNat : Int) != 35) = true := by rw [bne_iff_ne]; omega
        clear HNO HYES hE hm2 hm3
        go_wp2
        exact bodyPost_ret (v := .agg #[.slice none 0 0, .bool true]) (by simp [results, Tryz.results45, go_sem, hr0', hr1']) rfl (cut_bad hR.out hbA' _ _)
       ·have hcase : ¬ (k + 1 + n) < s.size ∨ (∃ h : (k + 1 + n) < s.size, ((s[(k + 1 + n)].toNat : Int) != 32) = false) ∨ (∃ h : (k + 1 + n) < s.size, ((s[(k + 1 + n)].toNat : Int) != 32) = true ∧ ((s[(k + 1 + n)].toNat : Int) != 35) = false) := end_cases s (k + 1 + n) hbad
        have hok : endOk (s.data.toList.drop (k + 1 + n)) = true := by rw [hE, decide_eq_true_iff]; exact hbad
        clear hE hbad
        by_cases h200 : x.length ≤ 200
        ·have h200' : (a.size : Int) ≤ 200 := by omega
         by_cases h8 : acc.length < 8
         ·have h8' : (acc.length : Int) < 8 := by omega
          have HC2 := HYES ⟨hok, h200, h8⟩
          clear HNO HYES hok
          rcases hcase with e0 | ⟨hm, e1⟩ | ⟨hm, e1, e2⟩
          all_goals
           go_wp2_with (at_builtin; refine wpList_append_lies _ rfl _ _ 61 rfl (w.heap.size + 1 + 1 + 1) 9 i0 (.string ⟨#[]⟩) 1 16 Tryz.underlying61 hi hz0 hz1 hz2 rfl (by decide) _ acc.length _ rfl (hown'.alloc _) ⟨w1.heap.size, 0, none⟩ 1 1 [.string a] rfl rfl (news1 w1 _ 9) ?c2 (by decide) ?c3 ?c4 ?c5 (w1.heap.size + 1) (by simp) ?_)
           case c2 => first | rfl | (intro u hu; simp at hu; subst hu; rfl)
           case c3 => unfold maxLen; omega
           case c4 => omega
           case c5 => first | omega | (simp; omega)
           intro g cap2 w2 hown2 hgrow hat hlt1
           have hne2 : (some (w.heap.size + 1 + 1) : Option Nat) ≠ (Value.slice ao acc.length cap).ownBlock := fun h => by have := (hown'.lt _ h.symm).1; omega
           have hb3 : w2.heap[w.heap.size + 1 + 1]? = some (.cells #[.slice ao acc.length cap, .bool false] 66 (0, 0)) := by rw [hgrow.block _ (by simp; omega) hne2, Lib.alloc_old w1 _ _ (by omega)]; exact hb2'
           have hbw2 : Below (w.heap.size + 1 + 1) ((w.alloc (.cells #[.slice none 0 0, .bool false] 66)).alloc (.cells #[.slice none 0 0, .bool true] 66)) w2 := (hbw'.alloc (by omega) _).grown hgrow (by simp; omega) (fun k hk => by have := (hown'.lt k hk).1; omega)
           have d0 : w2.cell? ⟨w.heap.size + 1 + 1, 0, none⟩ = some (.slice ao acc.length cap) := by rw [Lib.cell_of_heap hb3]; rfl
           have d1 : w2.frozen? ⟨w.heap.size + 1 + 1, 0, none⟩ = false := Lib.frozen_of_heap hb3 0
           go_wp2
           go_roundw
           case rel =>
            refine ⟨(k + 1 + n), acc ++ [x], some ⟨g, 0, none⟩, cap2, by omega, by simp; omega, by go_num, ?_, own_setCell ?_ _ (by simp) _, hbw2.setCell (by simp) _, HC2⟩
            ·rw [heap_setCell_same _ _ _ _ _ _ hb3, List.length_append]; rfl
            ·rw [strs_append, List.length_append]; rw [HA.out] at hown2; exact hown2
           case measure => simp [intOf]; omega
         ·have h8' : (8 : Int) ≤ (acc.length : Int) := by omega
          have hR := HNO (fun h => h8 h.2.2)
          clear HNO HYES hok
          rcases hcase with e0 | ⟨hm, e1⟩ | ⟨hm, e1, e2⟩
          all_goals
           go_wp2
           exact bodyPost_ret (v := .agg #[.slice none 0 0, .bool true]) (by simp [results, Tryz.results45, go_sem, hr0', hr1']) rfl (cut_bad hR.out hbA' _ _)
        ·have h200' : (200 : Int) < (a.size : Int) := by omega
         have hR := HNO (fun h => h200 h.2.1)
         clear HNO HYES hok
         rcases hcase with e0 | ⟨hm, e1⟩ | ⟨hm, e1, e2⟩
         all_goals
          go_wp2
          exact bodyPost_ret (v := .agg #[.slice none 0 0, .bool true]) (by simp [results, Tryz.results45, go_sem, hr0', hr1']) rfl (cut_bad hR.out hbA' _ _)
     ·have h34' : ((s[k].toNat : Int) == 34) = false := by rw [beq_eq_false_iff_ne]; omega
      have HNB : bareB s[k] = false → Hid (R = none) := fun hb => hC.out.none h32 h35 (word_none s k hlt h34 hb)
      have HNO0 : ∀ j, k < j → j ≤ s.size → Hid (((s.data.toList.drop k).take (j - k)).all bareB = true) → (j = s.size ∨ ∃ h : j < s.size, bareB s[j] = false) → ¬ (endOk (s.data.toList.drop j) = true ∧ ((s.data.toList.drop k).take (j - k)).length ≤ 200 ∧ acc.length < 8) → Hid (R = none) := fun j h1 h2 hall hend hno => hC.out.no h32 h35 (word_bare s k j hlt h34 h1 h2 hall.out hend) (by rw [drop_add _ k (j - k) _ _ hd, show k + (j - k) = j from by omega]; exact hno)
      have HYES0 : ∀ j, k < j → j ≤ s.size → Hid (((s.data.toList.drop k).take (j - k)).all bareB = true) → (j = s.size ∨ ∃ h : j < s.size, bareB s[j] = false) → (endOk (s.data.toList.drop j) = true ∧ ((s.data.toList.drop k).take (j - k)).length ≤ 200 ∧ acc.length < 8) → Hid (Cut (acc ++ [(s.data.toList.drop k).take (j - k)]) (s.data.toList.drop j) R) := fun j h1 h2 hall hend hy => by
       have e : (s[k] :: s.data.toList.drop (k + 1)).drop (j - k) = s.data.toList.drop j := by rw [drop_add _ k (j - k) _ _ hd, show k + (j - k) = j from by omega]
       have h := hC.out.word h32 h35 (word_bare s k j hlt h34 h1 h2 hall.out hend) (by rw [e]; exact hy)
       rw [e] at h; exact h
      clear hC h32 hd h35 h34
      go_wp2
      go_loop [7] (fun m => ∃ j : Nat, k ≤ j ∧ j ≤ s.size ∧ m = .int .i64 j ∧ Hid (((s.data.toList.drop k).take (j - k)).all bareB = true)) (fun m => s.size - (intOf m).toNat)
      case atStart => exact ⟨k, Nat.le_refl _, by omega, rfl, by show _ = _; simp⟩
      case round =>
       obtain ⟨j, hkj, hj, rfl, hall⟩ := hrel
       by_cases hcont : ∃ h : j < s.size, bareB s[j] = true
       ·obtain ⟨hjs, hb⟩ := hcont
        have HA : Hid (((s.data.toList.drop k).take (j + 1 - k)).all bareB = true) := by show _ = _; rw [midw_snoc s k j hkj hjs, List.all_append, hall.out]; simp [hb]
        have H := l1Bare_any s[j] wr
        rw [hb] at H
        clear HNB HNO0 HYES0 hb
        go_wp2_with (go_at_call 104; refine H.mono ?_; rintro e wr ⟨rfl, rfl⟩)
        go_round
        case rel => exact ⟨j + 1, by omega, by omega, by go_num, HA⟩
        case measure => simp [intOf]; omega
       ·have hend : j = s.size ∨ ∃ h : j < s.size, bareB s[j] = false := by
         by_cases hjs : j < s.size
         ·exact Or.inr ⟨hjs, by simpa using fun h => hcont ⟨hjs, h⟩⟩
         ·exact Or.inl (by omega)
        clear hcont
        obtain ⟨x, hx⟩ : ∃ x, x = (s.data.toList.drop k).take (j - k) := ⟨_, rfl⟩
        by_cases hjk : j = k
        ·have hR := HNB (by
          rcases hend with h | ⟨h, hb⟩
          ·omega
          ·subst hjk; exact hb)
         have hjk' : ((j : Int) == (k : Int)) = true := by rw [beq_iff_eq]; omega
         have hjs : j < s.size := by omega
         have H := l1Bare_any s[j] wr
         have hbj : bareB s[j] = false := by
          rcases hend with h | ⟨h, hb⟩
          ·omega
          ·exact hb
         rw [hbj] at H
         clear HNB HNO0 HYES0 hend hbj hx hjk
         go_wp2_with (go_at_call 104; refine H.mono ?_; rintro e wr ⟨rfl, rfl⟩)
         exact bodyPost_ret (v := .agg #[.slice none 0 0, .bool true]) (by simp [results, Tryz.results45, go_sem, hr0, hr1]) rfl (cut_bad hR.out hbA _ _)
        ·have HNO := HNO0 j (by omega) hj hall hend
         have HYES := HYES0 j (by omega) hj hall hend
         rw [← hx] at HNO HYES
         have hjk' : ((j : Int) == (k : Int)) = false := by rw [beq_eq_false_iff_ne]; omega
         have hax : (s.extract k j).size = x.length := by rw [hx, midw_take]; rfl
         have HA : Hid (s.extract k j = ⟨x.toArray⟩) := by show _ = _; rw [hx]; exact midw_take s k j
         have H : ∀ h : j < s.size, Calls Tryz.prog 104 #[.int .u8 (s[j].toNat : Int)] wr fun e w' => e = .returned (.bool false) ∧ w' = wr := fun h => by
          have H := l1Bare_any s[j] wr
          have hbj : bareB s[j] = false := by
           rcases hend with h' | ⟨_, hb⟩
           ·omega
           ·exact hb
          rw [hbj] at H; exact H
         clear HNB HNO0 HYES0 hall hx hend
         have hE : endOk (s.data.toList.drop j) = decide (¬ (j < s.size ∧ ∀ h : j < s.size, s[j].toNat ≠ 32 ∧ s[j].toNat ≠ 35)) := endOk_at s j
         by_cases hbad : j < s.size ∧ ∀ h : j < s.size, s[j].toNat ≠ 32 ∧ s[j].toNat ≠ 35
         ·obtain ⟨hm, hm2⟩ := hbad
          have hm3 := hm2 hm
          have hR := HNO (fun h => by have h1 := h.1; rw [hE, decide_eq_true_iff] at h1; exact h1 ⟨hm, hm2⟩)
          have e0 : ((j : Int) : Int) < (s.size : Int) := by omega
          have e1 : ((s[j].toNat : Int) != 32) = true := by rw [bne_iff_ne]; omega
          have e2 : ((s[j].toNat : Int) != 35) = true := by rw [bne_iff_ne]; omega
          clear HNO HYES hE hm2 hm3
          go_wp2_with (go_at_call 104; refine (H (by assumption)).mono ?_; rintro e wr ⟨rfl, rfl⟩)
          exact bodyPost_ret (v := .agg #[.slice none 0 0, .bool true]) (by simp [results, Tryz.results45, go_sem, hr0, hr1]) rfl (cut_bad hR.out hbA _ _)
         ·have hcase : ¬ j < s.size ∨ (∃ h : j < s.size, ((s[j].toNat : Int) != 32) = false) ∨ (∃ h : j < s.size, ((s[j].toNat : Int) != 32) = true ∧ ((s[j].toNat : Int) != 35) = false) := end_cases s j hbad
          have hok : endOk (s.data.toList.drop j) = true := by rw [hE, decide_eq_true_iff]; exact hbad
          clear hE hbad
          by_cases h200 : x.length ≤ 200
          ·have h200' : ((s.extract k j).size : Int) ≤ 200 := by omega
           by_cases h8 : acc.length < 8
           ·have h8' : (acc.length : Int) < 8 := by omega
            have HC2 := HYES ⟨hok, h200, h8⟩
            clear HNO HYES hok
            rcases hcase with e0 | ⟨hm, e1⟩ | ⟨hm, e1, e2⟩
            all_goals
             go_wp2_with (first | (go_at_call 104; refine (H (by assumption)).mono ?_; rintro e wr ⟨rfl, rfl⟩) | (at_builtin; refine wpList_append_lies _ rfl _ _ 61 rfl (w.heap.size + 1 + 1 + 1) 9 i0 (.string ⟨#[]⟩) 1 16 Tryz.underlying61 hi hz0 hz1 hz2 rfl (by decide) _ acc.length _ rfl (hown.alloc _) ⟨wr.heap.size, 0, none⟩ 1 1 [.string (s.extract k j)] rfl rfl (news1 wr _ 9) ?c2 (by decide) ?c3 ?c4 ?c5 (wr.heap.size + 1) (by simp) ?_))
             case c2 => first | rfl | (intro u hu; simp at hu; subst hu; rfl)
             case c3 => unfold maxLen; omega
             case c4 => omega
             case c5 => first | omega | (simp; omega)
             intro g cap2 w2 hown2 hgrow hat hlt1
             have hne2 : (some (w.heap.size + 1 + 1) : Option Nat) ≠ (Value.slice ao acc.length cap).ownBlock := fun h => by have := (hown.lt _ h.symm).1; omega
             have hb3 : w2.heap[w.heap.size + 1 + 1]? = some (.cells #[.slice ao acc.length cap, .bool false] 66 (0, 0)) := by rw [hgrow.block _ (by simp; omega) hne2, Lib.alloc_old wr _ _ (by omega)]; exact hb2
             have hbw2 : Below (w.heap.size + 1 + 1) ((w.alloc (.cells #[.slice none 0 0, .bool false] 66)).alloc (.cells #[.slice none 0 0, .bool true] 66)) w2 := (hbw.alloc (by omega) _).grown hgrow (by simp; omega) (fun k hk => by have := (hown.lt k hk).1; omega)
             have d0 : w2.cell? ⟨w.heap.size + 1 + 1, 0, none⟩ = some (.slice ao acc.length cap) := by rw [Lib.cell_of_heap hb3]; rfl
             have d1 : w2.frozen? ⟨w.heap.size + 1 + 1, 0, none⟩ = false := Lib.frozen_of_heap hb3 0
             go_wp2_with (go_at_call 104; refine (H (by assumption)).mono ?_; rintro e wr ⟨rfl, rfl⟩)
             go_roundw
             case rel =>
              refine ⟨j, acc ++ [x], some ⟨g, 0, none⟩, cap2, by omega, by simp; omega, by go_num, ?_, own_setCell ?_ _ (by simp) _, hbw2.setCell (by simp) _, HC2⟩
              ·rw [heap_setCell_same _ _ _ _ _ _ hb3, List.length_append]; rfl
              ·rw [strs_append, List.length_append]; rw [HA.out] at hown2; exact hown2
             case measure => simp [intOf]; omega
           ·have h8' : (8 : Int) ≤ (acc.length : Int) := by omega
            have hR := HNO (fun h => h8 h.2.2)
            clear HNO HYES hok
            rcases hcase with e0 | ⟨hm, e1⟩ | ⟨hm, e1, e2⟩
            all_goals
             go_wp2_with (go_at_call 104; refine (H (by assumption)).mono ?_; rintro e wr ⟨rfl, rfl⟩)
             exact bodyPost_ret (v := .agg #[.slice none 0 0, .bool true]) (by simp [results, Tryz.results45, go_sem, hr0, hr1]) rfl (cut_bad hR.out hbA _ _)
          ·have h200' : (200 : Int) < ((s.extract k j).size : Int) := by omega
           have hR := HNO (fun h => h200 h.2.1)
           clear HNO HYES hok
           rcases hcase with e0 | ⟨hm, e1⟩ | ⟨hm, e1, e2⟩
           all_goals
            go_wp2_with (go_at_call 104; refine (H (by assumption)).mono ?_; rintro e wr ⟨rfl, rfl⟩)
            exact bodyPost_ret (v := .agg #[.slice none 0 0, .bool true]) (by simp [results, Tryz.results45, go_sem, hr0, hr1]) rfl (cut_bad hR.out hbA _ _)
  ·have hR : Hid (R = some acc) := by have h := hC.out; rw [List.drop_of_length_le (by simp; omega)] at h; exact Cut.nil h
   clear hC
   go_wp2
   exact bodyPost_ret (v := .agg #[.slice ao acc.length cap, .bool false]) (by simp [results, Tryz.results45, go_sem, hr0, hr1]) rfl (cut_done hR.out hownA hbA _ _)
end Go.Proofs.YtpdahhnjhggocabGreatDoor
