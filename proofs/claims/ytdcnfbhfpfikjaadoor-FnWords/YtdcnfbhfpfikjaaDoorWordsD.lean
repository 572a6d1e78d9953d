import Derived.Test.YtdcnfbhfpfikjaaDoorWordsC
import Derived.Laws.BitsLemmas
namespace Go.Proofs.YtdcnfbhfpfikjaaDoor
open Go.RowKit
/-- What the specification's l1Quoted gives. -/
def qR (o : Option (List UInt8 × Nat)) : Value := match o with | none => .tuple #[.string ⟨#[]⟩, .int .i64 0] | some p => .tuple #[.string ⟨p.1.toArray⟩, .int .i64 (p.2 : Int)]
theorem wraps_i64 (n : Int) (h0 : 0 ≤ n) (h1 : n < 9223372036854775808) : IntKind.i64.wrap n = n := by rw [IntKind.wrap_i64]; omega
theorem hex_byte (a b : Nat) (ha : a < 16) (hb : b < 16) : ((UInt8.ofNat (16 * a + b)).toNat : Int) = 16 * (a : Int) + (b : Int) := by
  rw [byte_of a b ha hb]; omega
set_option maxHeartbeats 4000000 in
set_option maxRecDepth 100000 in
theorem l1Quoted_any (s : ByteArray) (w : World) (hs : s.size ≤ 1048576) : Calls Tryd.prog 30 #[.string s] w fun e w' => e = .returned (qR (unq s.data.toList)) ∧ Below w.heap.size w w' := by
  obtain ⟨i0, hi, hz0, hz1, hz2⟩ := info_parts info5
  rw [← Uq_zero]
  generalize hR : Uq s.data.toList 0 [] = R
  have HR : Hid (Uq s.data.toList 0 [] = R) := hR
  clear hR
  go_enter Tryd.func30, Tryd.ntmps30
  go_wp2
  go_loopw [4, 5] (fun v i wr => ∃ (k : Nat) (acc : List UInt8), k ≤ s.size ∧ acc.length ≤ k ∧ i = .int .i64 k ∧ wr.ownsRow w.heap.size 5 1 v acc.length (Lib.byteCells acc) ∧ Below w.heap.size w wr ∧ Hid (Uq s.data.toList k acc = R)) (fun _ i _ => s.size - (intOf i).toNat)
  case atStart => exact ⟨0, [], by omega, by simp, rfl, World.ownsRow_lit w #[] 0 (Nat.le_refl _) (by decide) rfl, (Below.refl _ _).alloc (Nat.le_refl _) _, HR⟩
  case round =>
    obtain ⟨k, acc, hk, hal, rfl, hown, hbw, hU⟩ := hrel
    have hsz := hbw.size
    clear HR
    by_cases hlt : k < s.size
    · by_cases h34 : s[k].toNat = 34
      · have h34' : ((s[k].toNat : Int) == 34) = true := by rw [beq_iff_eq]; omega
        have HF : Hid (R = some (acc, k + 1)) := by show _ = _; rw [← hU.out]; exact Uq_mark s k acc hlt h34
        clear hU h34
        have hcv := conv_own wr _ _ _ _ hown
        go_wp2
        go_ret2
        exact ⟨ret_val (by rw [HF.out]; rfl), hbw⟩
      · have h34' : ((s[k].toNat : Int) == 34) = false := by rw [beq_eq_false_iff_ne]; omega
        by_cases h92 : s[k].toNat = 92
        · have h92' : ((s[k].toNat : Int) == 92) = true := by rw [beq_iff_eq]; omega
          by_cases h2 : k + 2 < s.size
          · have h2' : ¬ (s.size : Int) ≤ (k : Int) + 2 := by omega
            have HH := Uq_hex s k acc h2 h92
            rw [hU.out] at HH
            clear h92 h34 hU
            by_cases ha : hexV (s[k + 1]'(by omega)) < 16
            · by_cases hb : hexV (s[k + 2]'(by omega)) < 16
              · rw [if_pos ⟨ha, hb⟩] at HH
                have HU : Hid (Uq s.data.toList (k + 3) (acc ++ [UInt8.ofNat (16 * hexV (s[k + 1]'(by omega)) + hexV (s[k + 2]'(by omega)))]) = R) := HH.symm
                have HB : Hid _ := hex_byte _ _ ha hb
                have e1 := hexI_lt ha
                have e2 := hexI_lt hb
                clear HH
                generalize hexV (s[k + 1]'(by omega)) = a at *
                generalize hexV (s[k + 2]'(by omega)) = b at *
                go_wp2_with (go_at_call 53; refine (l1Hex_any _ _).mono ?_; rintro e wr ⟨rfl, rfl⟩)
                have q1 : IntKind.i64.wrap ((k : Int) + 1) = (k : Int) + 1 := wraps_i64 _ (by omega) (by omega)
                have q2 : IntKind.i64.wrap ((k : Int) + 2) = (k : Int) + 2 := wraps_i64 _ (by omega) (by omega)
                have q3 : IntKind.i64.wrap (16 * (a : Int)) = 16 * (a : Int) := wraps_i64 _ (by omega) (by omega)
                have q4 : IntKind.i64.wrap (16 * (a : Int) + (b : Int)) = 16 * (a : Int) + (b : Int) := wraps_i64 _ (by omega) (by omega)
                have q5 : IntKind.u8.wrap (16 * (a : Int) + (b : Int)) = 16 * (a : Int) + (b : Int) := wraps_u8 _ (by omega) (by omega)
                have r1 : (0 : Int) ≤ (k : Int) + 1 := by omega
                have r2 : (k : Int) + 1 < (s.size : Int) := by omega
                have r3 : (0 : Int) ≤ (k : Int) + 2 := by omega
                have r4 : (k : Int) + 2 < (s.size : Int) := by omega
                have t1 : ((k : Int) + 1).toNat = k + 1 := by omega
                have t2 : ((k : Int) + 2).toNat = k + 2 := by omega
                go_region_held3 (fun _ => True) (first | trivial | exact True.intro)
                  (first
                    | (go_at_call 53; refine (l1Hex_any _ _).mono ?_; rintro e wx ⟨rfl, rfl⟩)
                    | (refine step_append_lies _ (by rfl) _ _ _ (by rfl) w.heap.size 5 i0 (.int .u8 0) 1 1 Tryd.underlying22 hi hz0 hz1 hz2 rfl (by decide) _ acc.length (Lib.byteCells acc) (by rfl) ((hown.alloc _).drew) ⟨wr.heap.size, 0, none⟩ 1 1 [.int .u8 (16 * (a : Int) + (b : Int))] (by rfl) (by rfl) (World.news_of_block (cs := #[.int .u8 (16 * (a : Int) + (b : Int))]) (t := 5) (fr := (0, 0)) (heap_alloc_new wr _)) (by simp [Value.oneCell']) (by omega) (by unfold maxLen; omega) (by omega) (by simp; omega) (wr.heap.size + 1) (by simp) ?_; intro g cap w1 hown1 hgrow hat hlt1))
                all_goals
                  clear q1 q2 q3 q4 q5
                  go_wp2
                  go_roundw
                  case rel =>
                    refine ⟨k + 3, acc ++ [UInt8.ofNat (16 * a + b)], by omega, by simp; omega, by go_num, ?_, ((hbw.alloc (by omega) _).drew).grown hgrow (by simp; omega) (fun k hk => (hown.lt k hk).1), HU⟩
                    rw [Lib.byteCells_append, List.length_append, show Lib.byteCells [UInt8.ofNat (16 * a + b)] = [.int .u8 (16 * (a : Int) + (b : Int))] from by simp only [Lib.byteCells, List.map_cons, List.map_nil, HB.out]]; exact hown1
                  case measure => simp [intOf]; omega
              · rw [if_neg (fun h => hb h.2)] at HH
                have HF : Hid (R = none) := HH
                have e1 := hexI_lt ha
                have e2 := hexI_ge hb
                clear HH hb
                generalize hexV (s[k + 1]'(by omega)) = a at *
                go_wp2_with (go_at_call 53; refine (l1Hex_any _ _).mono ?_; rintro e wr ⟨rfl, rfl⟩)
                go_ret2
                exact ⟨ret_val (by rw [HF.out]; rfl), hbw⟩
            · rw [if_neg (fun h => ha h.1)] at HH
              have HF : Hid (R = none) := HH
              have e1 := hexI_ge ha
              clear HH ha
              go_wp2_with (go_at_call 53; refine (l1Hex_any _ _).mono ?_; rintro e wr ⟨rfl, rfl⟩)
              go_ret2
              exact ⟨ret_val (by rw [HF.out]; rfl), hbw⟩
          · have h2' : (s.size : Int) ≤ (k : Int) + 2 := by omega
            have HF : Hid (R = none) := by show _ = _; rw [← hU.out]; exact Uq_short s k acc hlt h92 h2
            clear hU h34 h92
            go_wp2
            go_ret2
            exact ⟨ret_val (by rw [HF.out]; rfl), hbw⟩
        · have h92' : ((s[k].toNat : Int) == 92) = false := by rw [beq_eq_false_iff_ne]; omega
          cases hp : plainB s[k]
          · have HF : Hid (R = none) := by show _ = _; rw [← hU.out]; exact Uq_none s k acc hlt hp h34 h92
            have hp' : (s[k].toNat : Int) < 32 ∨ (32 ≤ (s[k].toNat : Int) ∧ 126 < (s[k].toNat : Int)) := by
              by_cases h : 32 ≤ s[k].toNat ∧ s[k].toNat ≤ 126
              · rw [plainB_mk (by omega)] at hp; exact Bool.noConfusion hp
              · omega
            clear hU h34 h92 hp
            rcases hp' with p1 | ⟨p1, p2⟩
            all_goals
              go_wp2
              go_ret2
              exact ⟨ret_val (by rw [HF.out]; rfl), hbw⟩
          · have hp' := plainB_true hp
            have HU : Hid (Uq s.data.toList (k + 1) (acc ++ [s[k]]) = R) := by show _ = _; rw [← hU.out]; exact (Uq_plain s k acc hlt hp).symm
            have p1 : 32 ≤ (s[k].toNat : Int) := by omega
            have p2 : (s[k].toNat : Int) ≤ 126 := by omega
            clear hU h34 h92 hp hp'
            go_wp2_with (at_builtin; refine wpList_append_lies _ rfl _ _ 22 rfl w.heap.size 5 i0 (.int .u8 0) 1 1 Tryd.underlying22 hi hz0 hz1 hz2 rfl (by decide) _ acc.length _ rfl (hown.alloc _) ⟨wr.heap.size, 0, none⟩ 1 1 [.int .u8 (s[k].toNat : Int)] rfl rfl (news1 wr _ 5) ?c2 (by decide) ?c3 ?c4 ?c5 (wr.heap.size + 1) (by simp) ?_)
            case c2 => intro u hu; simp at hu; subst hu; rfl
            case c3 => unfold maxLen; omega
            case c4 => omega
            case c5 => simp; omega
            intro g cap w1 hown1 hgrow hat hlt1
            go_wp2
            go_roundw
            case rel =>
              refine ⟨k + 1, acc ++ [s[k]], by omega, by simp; omega, by go_num, ?_, (hbw.alloc (by omega) _).grown hgrow (by simp; omega) (fun k hk => (hown.lt k hk).1), HU⟩
              rw [Lib.byteCells_append, List.length_append]; exact hown1
            case measure => simp [intOf]; omega
    · have HF : Hid (R = none) := by show _ = _; rw [← hU.out]; exact Uq_end s k acc hlt
      clear hU
      go_wp2
      go_ret2
      exact ⟨ret_val (by rw [HF.out]; rfl), hbw⟩
end Go.Proofs.YtdcnfbhfpfikjaaDoor
