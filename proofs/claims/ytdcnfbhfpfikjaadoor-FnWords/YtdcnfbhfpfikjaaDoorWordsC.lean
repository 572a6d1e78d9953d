import Derived.Test.YtdcnfbhfpfikjaaDoorWordsB
namespace Go.Proofs.YtdcnfbhfpfikjaaDoor
open Go.RowKit
/-- What SheetWords leaves: the cut, its words in memory of its own. -/
def CutPost (R : Option (List (List UInt8))) (w : World) (e : Ending) (w' : World) : Prop :=
  ∃ v, e = .returned (.agg #[v, .bool R.isNone]) ∧ w'.ownsRow w.heap.size 9 1 v (R.getD []).length (strs (R.getD [])) ∧ Below w.heap.size w w'
def strSize : Value → Nat
  | .string s => s.size
  | _ => 0
theorem trim_any (t : ByteArray) (w : World) : Calls Tryd.prog 27 #[.string t, .string ⟨#[32]⟩] w fun e w' => e = .returned (.string ⟨(t.data.toList.dropWhile (fun c => c == 32)).toArray⟩) ∧ w' = w :=
  strings_TrimLeft_one t 32 (by decide) w
set_option maxHeartbeats 400000 in
theorem scannerOf_q (t : ByteArray) (w : World) (h0 : 0 < t.size) (h34 : t[0].toNat = 34) (hs : t.size ≤ 1048576) : Calls Tryd.prog 28 #[.string t] w fun e w' => e = .returned (.iface 89 (.agg #[])) ∧ w' = w := by
  have hp : (0 : Int) < (t.size : Int) := by omega
  have h : ((t[0].toNat : Int) == 34) = true := by rw [beq_iff_eq]; omega
  clear h34
  go_enter Tryd.func28, Tryd.ntmps28
  go_wp2
  go_ret
  exact ⟨rfl, rfl⟩
set_option maxHeartbeats 400000 in
theorem scannerOf_b (t : ByteArray) (w : World) (h0 : 0 < t.size) (h34 : t[0].toNat ≠ 34) (hs : t.size ≤ 1048576) : Calls Tryd.prog 28 #[.string t] w fun e w' => e = .returned (.iface 90 (.agg #[])) ∧ w' = w := by
  have hp : (0 : Int) < (t.size : Int) := by omega
  have h : ((t[0].toNat : Int) == 34) = false := by rw [beq_eq_false_iff_ne]; omega
  clear h34
  go_enter Tryd.func28, Tryd.ntmps28
  go_wp2
  go_ret
  exact ⟨rfl, rfl⟩
theorem info9 : (Tryd.prog.info? 9).map (fun i => (i.zero, i.size, i.bytes)) = some (some (.string ⟨#[]⟩), 1, 16) := by kernel_rfl
theorem trim_size (s : ByteArray) (hs : s.size ≤ 1048576) : (⟨(s.data.toList.dropWhile (fun c => c == 32)).toArray⟩ : ByteArray).size ≤ 1048576 := by
  have h : (s.data.toList.dropWhile (fun c => c == 32)).length ≤ s.data.toList.length := (List.dropWhile_suffix _).length_le
  show (s.data.toList.dropWhile (fun c => c == 32)).toArray.size ≤ _
  have h2 : s.data.toList.length = s.size := by simp
  rw [List.size_toArray]; omega
theorem trim_len (s : ByteArray) : (⟨(s.data.toList.dropWhile (fun c => c == 32)).toArray⟩ : ByteArray).size ≤ s.size := by
  have h : (s.data.toList.dropWhile (fun c => c == 32)).length ≤ s.data.toList.length := (List.dropWhile_suffix _).length_le
  show (s.data.toList.dropWhile (fun c => c == 32)).toArray.size ≤ _
  have h2 : s.data.toList.length = s.size := by simp
  rw [List.size_toArray]; omega
theorem trim_head (s : ByteArray) : ∀ h : 0 < (⟨(s.data.toList.dropWhile (fun c => c == 32)).toArray⟩ : ByteArray).size, (⟨(s.data.toList.dropWhile (fun c => c == 32)).toArray⟩ : ByteArray)[0].toNat ≠ 32 := by
  intro h
  have hn : ∀ hne, (fun c : UInt8 => c == 32) ((s.data.toList.dropWhile (fun c => c == 32)).head hne) = false := fun hne => List.head_dropWhile_not _ hne
  generalize s.data.toList.dropWhile (fun c => c == 32) = l at *
  match l, h, hn with
  | c :: r, h, hn =>
    have := hn (by simp)
    simp at this
    show c.toNat ≠ 32
    intro hc; exact this (UInt8.toNat_inj.1 hc)
theorem own_setCell {w : World} {base : Nat} {e : TypeId} {size : Nat} {v : Value} {n : Nat} {xs : List Value} (h : w.ownsRow base e size v n xs) (p : Addr) (hp : p.block < base) (u : Value) : (w.setCell p u).ownsRow base e size v n xs := by
  refine ⟨h.1, ?_⟩
  rcases h.2 with h2 | ⟨g, cap, cur, hv, hb, hg, hrest⟩
  · exact Or.inl h2
  · exact Or.inr ⟨g, cap, cur, hv, hb, by rw [Below.heap_setCell _ _ _ _ (by omega)]; exact hg, hrest⟩
theorem own_mono {w : World} {base base' : Nat} {e : TypeId} {size : Nat} {v : Value} {n : Nat} {xs : List Value} (h : w.ownsRow base e size v n xs) (hb : base' ≤ base) : w.ownsRow base' e size v n xs := by
  refine ⟨h.1, ?_⟩
  rcases h.2 with h2 | ⟨g, cap, cur, hv, hg, hrest⟩
  · exact Or.inl h2
  · exact Or.inr ⟨g, cap, cur, hv, by omega, hrest⟩
theorem own_below {w w' : World} {base : Nat} {e : TypeId} {size : Nat} {v : Value} {n : Nat} {xs : List Value} (h : w.ownsRow base e size v n xs) (hb : Below w.heap.size w w') : w'.ownsRow base e size v n xs := by
  refine ⟨h.1, ?_⟩
  rcases h.2 with h2 | ⟨g, cap, cur, hv, hg, hh, hrest⟩
  · exact Or.inl h2
  · refine Or.inr ⟨g, cap, cur, hv, hg, ?_, hrest⟩
    rw [hb.block g ?_]
    · exact hh
    · exact (Array.getElem?_eq_some_iff.1 hh).1
theorem cut_done {w wr : World} {T : TypeId} {acc : List (List UInt8)} {R : Option (List (List UInt8))} {ao : Option Addr} {cap : Nat} {cs : Array Value} (hR : R = some acc) (hown : wr.ownsRow (w.heap.size + 1) 9 1 (.slice ao acc.length cap) acc.length (strs acc))
    (hbw : Below (w.heap.size + 1) (w.alloc (.cells cs T)) wr) (x y : Value) : CutPost R w (.returned (.agg #[.slice ao acc.length cap, .bool false])) ((wr.setCell ⟨w.heap.size, 0, none⟩ x).setCell ⟨w.heap.size, 1, none⟩ y) := by
  subst hR
  exact ⟨_, rfl, own_mono (own_setCell (own_setCell hown ⟨w.heap.size, 0, none⟩ (Nat.lt_succ_self _) x) ⟨w.heap.size, 1, none⟩ (Nat.lt_succ_self _) y) (by omega), ((((Below.refl _ w).alloc (Nat.le_refl _) _).trans (hbw.mono (by omega))).setCell (by simp) _).setCell (by simp) _⟩
theorem cut_bad {w wr : World} {T : TypeId} {R : Option (List (List UInt8))} {cs : Array Value} (hR : R = none)
    (hbw : Below (w.heap.size + 1) (w.alloc (.cells cs T)) wr) (x y : Value) : CutPost R w (.returned (.agg #[.slice none 0 0, .bool true])) ((wr.setCell ⟨w.heap.size, 0, none⟩ x).setCell ⟨w.heap.size, 1, none⟩ y) := by
  subst hR
  exact ⟨_, rfl, World.ownsRow_nil _ _ _ _, ((((Below.refl _ w).alloc (Nat.le_refl _) _).trans (hbw.mono (by omega))).setCell (by simp) _).setCell (by simp) _⟩
theorem ne_empty (t : ByteArray) (h0 : 0 < t.size) : t.toList.isEmpty = false := by
  rw [ByteArray.toList_eq, list1 t h0]; rfl
theorem method_q (w : World) : (method 259 89 (.agg #[]) "loop.example/wharfsheet/impl.scan").run Tryd.prog w = .ok (122, .agg #[]) w := by kernel_rfl
theorem method_b (w : World) : (method 259 90 (.agg #[]) "loop.example/wharfsheet/impl.scan").run Tryd.prog w = .ok (124, .agg #[]) w := by kernel_rfl
set_option maxHeartbeats 2000000 in
set_option maxRecDepth 100000 in
theorem implWords_any (s : ByteArray) (w : World) (hs : s.size ≤ 1048576) : Calls Tryd.prog 7 #[.string s] w fun e w' => CutPost (cutL s.data.toList) w e w' := by
  obtain ⟨i0, hi, hz0, hz1, hz2⟩ := info_parts info9
  have HC : Hid (Cut [] s.data.toList (cutL s.data.toList)) := Cut.start _
  generalize cutL s.data.toList = R at *
  go_enter Tryd.func7, Tryd.ntmps7
  go_wp2_with (go_at_call 27; refine (trim_any s _).mono ?_; rintro e w0 ⟨rfl, rfl⟩)
  go_loopw [3, 4] (fun v r wr => ∃ (acc : List (List UInt8)) (t : ByteArray) (ao : Option Addr) (cap : Nat), acc.length ≤ 8 ∧ t.size ≤ 1048576 ∧ r = .string t ∧ v = .slice ao acc.length cap ∧ wr.ownsRow (w.heap.size + 1) 9 1 v acc.length (strs acc) ∧ Below (w.heap.size + 1) (w.alloc (.cells #[.slice none 0 0, .bool false] 26)) wr ∧ Hid (Cut acc t.data.toList R) ∧ Hid (∀ h : 0 < t.size, t[0].toNat ≠ 32)) (fun _ r _ => strSize r)
  case atStart => exact ⟨[], _, none, 0, by simp, trim_size s hs, rfl, rfl, World.ownsRow_nil _ _ _ _, Below.refl _ _, HC.out.trim, trim_head s⟩
  case round =>
    obtain ⟨acc, t, ao, cap, hal, hts, rfl, rfl, hown, hbw, hC, h32⟩ := hrel
    have hsz := hbw.size
    simp only [World.size_alloc] at hsz
    have hc0 : wr.cell? ⟨w.heap.size, 0, none⟩ = some (.slice none 0 0) := by rw [hbw.cell (by simp)]; simp
    have hc1 : wr.cell? ⟨w.heap.size, 1, none⟩ = some (.bool false) := by rw [hbw.cell (by simp)]; simp
    have hf0 : wr.frozen? ⟨w.heap.size, 0, none⟩ = false := by rw [hbw.frozen (by simp)]; simp
    have hf1 : wr.frozen? ⟨w.heap.size, 1, none⟩ = false := by rw [hbw.frozen (by simp)]; simp
    by_cases h0 : 0 < t.size
    · have hp : (0 : Int) < (t.size : Int) := by omega
      have hne : t.toList.isEmpty = false := ne_empty t h0
      by_cases h35 : t[0].toNat = 35
      · have h35' : ((t[0].toNat : Int) != 35) = false := by rw [bne_eq_false_iff_eq]; omega
        have hR : Hid (R = some acc) := by
          have := hC.out; rw [list1 t h0] at this; exact this.hash h35
        clear hC h32 h35
        go_wp2
        exact bodyPost_ret (v := .agg #[.slice ao acc.length cap, .bool false]) (by simp [results, Tryd.results7, go_sem, hc0, hc1]) rfl (cut_done hR.out hown hbw _ _)
      · have h35' : ((t[0].toNat : Int) != 35) = true := by rw [bne_iff_ne]; omega
        have h32' := h32.out h0
        by_cases h34 : t[0].toNat = 34
        · have hm := method_q
          go_wp2_with (go_at_call 28; refine (scannerOf_q t _ h0 h34 hts).mono ?_; rintro e wr ⟨rfl, rfl⟩)
          refine (quoteScan_any t _ h0 h34 hts).mono ?_
          rintro e w1 ⟨⟨a, b, ok, rfl, hcase⟩, b1⟩
          have hs1 := b1.size
          have hbw1 := hbw.trans (b1.mono hsz)
          have hown1 := own_below hown b1
          have hc0' : w1.cell? ⟨w.heap.size, 0, none⟩ = some (.slice none 0 0) := by rw [b1.cell (by simp; omega)]; exact hc0
          have hc1' : w1.cell? ⟨w.heap.size, 1, none⟩ = some (.bool false) := by rw [b1.cell (by simp; omega)]; exact hc1
          have hf0' : w1.frozen? ⟨w.heap.size, 0, none⟩ = false := by rw [b1.frozen (by simp; omega)]; exact hf0
          have hf1' : w1.frozen? ⟨w.heap.size, 1, none⟩ = false := by rw [b1.frozen (by simp; omega)]; exact hf1
          clear hc0 hc1 hf0 hf1 hbw hown b1 hm h34
          rcases hcase with ⟨hw, rfl⟩ | ⟨x, n, hw, rfl, ha, rfl⟩
          · have hR : Hid (R = none) := by have h := hC.out; rw [list1 t h0] at h hw; exact h.none h32' h35 hw
            clear hC h32 h32' hw h35
            go_wp2
            exact bodyPost_ret (v := .agg #[.slice none 0 0, .bool true]) (by simp [results, Tryd.results7, go_sem, hc0', hc1']) rfl (cut_bad hR.out hbw1 _ _)
          · have hn := wordOf_pos _ _ _ hw
            have hts2 : (t.extract n t.size).size ≤ 1048576 := by simp; omega
            have hE := endsWord_any (t.extract n t.size) w1 hts2
            rw [bytes_drop] at hE
            have hax : a.size = x.length := by rw [ha]; rfl
            have HA : Hid (a = ⟨x.toArray⟩) := ha
            clear ha
            have HNO : ¬ (endOk (t.data.toList.drop n) = true ∧ x.length ≤ 200 ∧ acc.length < 8) → Hid (R = none) := fun hno => by have h := hC.out; rw [list1 t h0] at h hw hno; exact h.no h32' h35 hw hno
            have HYES : (endOk (t.data.toList.drop n) = true ∧ x.length ≤ 200 ∧ acc.length < 8) → Hid (Cut (acc ++ [x]) (t.data.toList.drop n) R) := fun hy => by have h := hC.out; have hl := list1 t h0; rw [hl] at h hw hy; rw [hl]; exact h.word h32' h35 hw hy
            clear hC h32 h32' hw h35
            by_cases hok : endOk (t.data.toList.drop n) = true
            · rw [hok] at hE
              by_cases h200 : x.length ≤ 200
              · have h200' : (a.size : Int) ≤ 200 := by omega
                by_cases h8 : acc.length < 8
                · have h8' : ((acc.length : Int) == 8) = false := by rw [beq_eq_false_iff_ne]; omega
                  have HC2 := HYES ⟨hok, h200, h8⟩
                  clear HNO HYES hok
                  go_wp2_with (first | (go_at_call 29; refine hE.mono ?_; rintro e w1 ⟨rfl, rfl⟩) | (at_builtin; refine wpList_append_lies _ rfl _ _ 24 rfl (w.heap.size + 1) 9 i0 (.string ⟨#[]⟩) 1 16 Tryd.underlying24 hi hz0 hz1 hz2 rfl (by decide) _ acc.length _ rfl (hown1.alloc _) ⟨w1.heap.size, 0, none⟩ 1 1 [.string a] rfl rfl (news1 w1 _ 9) ?c2 (by decide) ?c3 ?c4 ?c5 (w1.heap.size + 1) (by simp) ?_))
                  case c2 => intro u hu; simp at hu; subst hu; rfl
                  case c3 => unfold maxLen; omega
                  case c4 => omega
                  case c5 => simp; omega
                  intro g cap2 w2 hown2 hgrow hat hlt1
                  have hbw2 : Below (w.heap.size + 1) (w.alloc (.cells #[.slice none 0 0, .bool false] 26)) w2 := (hbw1.alloc (by omega) _).grown hgrow (by simp; omega) (fun k hk => (hown1.lt k hk).1)
                  go_wp2_with (go_at_call 27; refine (trim_any (t.extract n t.size) _).mono ?_; rintro e w2 ⟨rfl, rfl⟩)
                  go_roundw
                  case rel =>
                    refine ⟨acc ++ [x], ⟨(((t.data.toList.drop n).take (t.size - n)).dropWhile (fun c => c == 32)).toArray⟩, some ⟨g, 0, none⟩, cap2, by simp; omega, by rw [← Lib.extract_data]; exact trim_size _ hts2, rfl, by rw [List.length_append]; rfl, ?_, hbw2, ?_, by rw [← Lib.extract_data]; exact trim_head _⟩
                    · rw [strs_append, List.length_append]; rw [HA.out] at hown2; exact hown2
                    · have h := HC2.out.trim
                      rw [← bytes_drop] at h
                      rw [← Lib.extract_data]
                      exact h
                  case measure =>
                    have hlen := trim_len (t.extract n t.size)
                    have hsz2 : (t.extract n t.size).size < t.size := by
                      simp only [ByteArray.size_extract]; omega
                    rw [Lib.extract_data] at hlen
                    exact Nat.lt_of_le_of_lt hlen hsz2
                · have h8' : ((acc.length : Int) == 8) = true := by rw [beq_iff_eq]; omega
                  have hR := HNO (fun h => h8 h.2.2)
                  clear HNO HYES hok
                  go_wp2_with (go_at_call 29; refine hE.mono ?_; rintro e w1 ⟨rfl, rfl⟩)
                  exact bodyPost_ret (v := .agg #[.slice none 0 0, .bool true]) (by simp [results, Tryd.results7, go_sem, hc0', hc1']) rfl (cut_bad hR.out hbw1 _ _)
              · have h200' : ¬ (a.size : Int) ≤ 200 := by omega
                have h200'' : (200 : Int) < (a.size : Int) := by omega
                have hR := HNO (fun h => h200 h.2.1)
                clear HNO HYES hok
                go_wp2_with (go_at_call 29; refine hE.mono ?_; rintro e w1 ⟨rfl, rfl⟩)
                exact bodyPost_ret (v := .agg #[.slice none 0 0, .bool true]) (by simp [results, Tryd.results7, go_sem, hc0', hc1']) rfl (cut_bad hR.out hbw1 _ _)
            · have hR := HNO (fun h => hok h.1)
              rw [Bool.not_eq_true] at hok
              rw [hok] at hE
              clear HNO HYES hok
              go_wp2_with (go_at_call 29; refine hE.mono ?_; rintro e w1 ⟨rfl, rfl⟩)
              exact bodyPost_ret (v := .agg #[.slice none 0 0, .bool true]) (by simp [results, Tryd.results7, go_sem, hc0', hc1']) rfl (cut_bad hR.out hbw1 _ _)
        · have hm := method_b
          go_wp2_with (go_at_call 28; refine (scannerOf_b t _ h0 h34 hts).mono ?_; rintro e wr ⟨rfl, rfl⟩)
          refine (bareScan_any t _ h0 h34 hts).mono ?_
          rintro e w1 ⟨⟨a, b, ok, rfl, hcase⟩, b1⟩
          have hs1 := b1.size
          have hbw1 := hbw.trans (b1.mono hsz)
          have hown1 := own_below hown b1
          have hc0' : w1.cell? ⟨w.heap.size, 0, none⟩ = some (.slice none 0 0) := by rw [b1.cell (by simp; omega)]; exact hc0
          have hc1' : w1.cell? ⟨w.heap.size, 1, none⟩ = some (.bool false) := by rw [b1.cell (by simp; omega)]; exact hc1
          have hf0' : w1.frozen? ⟨w.heap.size, 0, none⟩ = false := by rw [b1.frozen (by simp; omega)]; exact hf0
          have hf1' : w1.frozen? ⟨w.heap.size, 1, none⟩ = false := by rw [b1.frozen (by simp; omega)]; exact hf1
          clear hc0 hc1 hf0 hf1 hbw hown b1 hm h34
          rcases hcase with ⟨hw, rfl⟩ | ⟨x, n, hw, rfl, ha, rfl⟩
          · have hR : Hid (R = none) := by have h := hC.out; rw [list1 t h0] at h hw; exact h.none h32' h35 hw
            clear hC h32 h32' hw h35
            go_wp2
            exact bodyPost_ret (v := .agg #[.slice none 0 0, .bool true]) (by simp [results, Tryd.results7, go_sem, hc0', hc1']) rfl (cut_bad hR.out hbw1 _ _)
          · have hn := wordOf_pos _ _ _ hw
            have hts2 : (t.extract n t.size).size ≤ 1048576 := by simp; omega
            have hE := endsWord_any (t.extract n t.size) w1 hts2
            rw [bytes_drop] at hE
            have hax : a.size = x.length := by rw [ha]; rfl
            have HA : Hid (a = ⟨x.toArray⟩) := ha
            clear ha
            have HNO : ¬ (endOk (t.data.toList.drop n) = true ∧ x.length ≤ 200 ∧ acc.length < 8) → Hid (R = none) := fun hno => by have h := hC.out; rw [list1 t h0] at h hw hno; exact h.no h32' h35 hw hno
            have HYES : (endOk (t.data.toList.drop n) = true ∧ x.length ≤ 200 ∧ acc.length < 8) → Hid (Cut (acc ++ [x]) (t.data.toList.drop n) R) := fun hy => by have h := hC.out; have hl := list1 t h0; rw [hl] at h hw hy; rw [hl]; exact h.word h32' h35 hw hy
            clear hC h32 h32' hw h35
            by_cases hok : endOk (t.data.toList.drop n) = true
            · rw [hok] at hE
              by_cases h200 : x.length ≤ 200
              · have h200' : (a.size : Int) ≤ 200 := by omega
                by_cases h8 : acc.length < 8
                · have h8' : ((acc.length : Int) == 8) = false := by rw [beq_eq_false_iff_ne]; omega
                  have HC2 := HYES ⟨hok, h200, h8⟩
                  clear HNO HYES hok
                  go_wp2_with (first | (go_at_call 29; refine hE.mono ?_; rintro e w1 ⟨rfl, rfl⟩) | (at_builtin; refine wpList_append_lies _ rfl _ _ 24 rfl (w.heap.size + 1) 9 i0 (.string ⟨#[]⟩) 1 16 Tryd.underlying24 hi hz0 hz1 hz2 rfl (by decide) _ acc.length _ rfl (hown1.alloc _) ⟨w1.heap.size, 0, none⟩ 1 1 [.string a] rfl rfl (news1 w1 _ 9) ?c2 (by decide) ?c3 ?c4 ?c5 (w1.heap.size + 1) (by simp) ?_))
                  case c2 => intro u hu; simp at hu; subst hu; rfl
                  case c3 => unfold maxLen; omega
                  case c4 => omega
                  case c5 => simp; omega
                  intro g cap2 w2 hown2 hgrow hat hlt1
                  have hbw2 : Below (w.heap.size + 1) (w.alloc (.cells #[.slice none 0 0, .bool false] 26)) w2 := (hbw1.alloc (by omega) _).grown hgrow (by simp; omega) (fun k hk => (hown1.lt k hk).1)
                  go_wp2_with (go_at_call 27; refine (trim_any (t.extract n t.size) _).mono ?_; rintro e w2 ⟨rfl, rfl⟩)
                  go_roundw
                  case rel =>
                    refine ⟨acc ++ [x], ⟨(((t.data.toList.drop n).take (t.size - n)).dropWhile (fun c => c == 32)).toArray⟩, some ⟨g, 0, none⟩, cap2, by simp; omega, by rw [← Lib.extract_data]; exact trim_size _ hts2, rfl, by rw [List.length_append]; rfl, ?_, hbw2, ?_, by rw [← Lib.extract_data]; exact trim_head _⟩
                    · rw [strs_append, List.length_append]; rw [HA.out] at hown2; exact hown2
                    · have h := HC2.out.trim
                      rw [← bytes_drop] at h
                      rw [← Lib.extract_data]
                      exact h
                  case measure =>
                    have hlen := trim_len (t.extract n t.size)
                    have hsz2 : (t.extract n t.size).size < t.size := by
                      simp only [ByteArray.size_extract]; omega
                    rw [Lib.extract_data] at hlen
                    exact Nat.lt_of_le_of_lt hlen hsz2
                · have h8' : ((acc.length : Int) == 8) = true := by rw [beq_iff_eq]; omega
                  have hR := HNO (fun h => h8 h.2.2)
                  clear HNO HYES hok
                  go_wp2_with (go_at_call 29; refine hE.mono ?_; rintro e w1 ⟨rfl, rfl⟩)
                  exact bodyPost_ret (v := .agg #[.slice none 0 0, .bool true]) (by simp [results, Tryd.results7, go_sem, hc0', hc1']) rfl (cut_bad hR.out hbw1 _ _)
              · have h200' : ¬ (a.size : Int) ≤ 200 := by omega
                have h200'' : (200 : Int) < (a.size : Int) := by omega
                have hR := HNO (fun h => h200 h.2.1)
                clear HNO HYES hok
                go_wp2_with (go_at_call 29; refine hE.mono ?_; rintro e w1 ⟨rfl, rfl⟩)
                exact bodyPost_ret (v := .agg #[.slice none 0 0, .bool true]) (by simp [results, Tryd.results7, go_sem, hc0', hc1']) rfl (cut_bad hR.out hbw1 _ _)
            · have hR := HNO (fun h => hok h.1)
              rw [Bool.not_eq_true] at hok
              rw [hok] at hE
              clear HNO HYES hok
              go_wp2_with (go_at_call 29; refine hE.mono ?_; rintro e w1 ⟨rfl, rfl⟩)
              exact bodyPost_ret (v := .agg #[.slice none 0 0, .bool true]) (by simp [results, Tryd.results7, go_sem, hc0', hc1']) rfl (cut_bad hR.out hbw1 _ _)
    · have ht : t = ⟨#[]⟩ := by apply ByteArray.ext; exact Array.eq_empty_of_size_eq_zero (by show t.size = 0; omega)
      subst ht
      have hR : Hid (R = some acc) := Cut.nil hC.out
      clear hC h32 h0
      go_wp2
      exact bodyPost_ret (v := .agg #[.slice ao acc.length cap, .bool false]) (by simp [results, Tryd.results7, go_sem, hc0, hc1]) rfl (cut_done hR.out hown hbw _ _)
end Go.Proofs.YtdcnfbhfpfikjaaDoor
