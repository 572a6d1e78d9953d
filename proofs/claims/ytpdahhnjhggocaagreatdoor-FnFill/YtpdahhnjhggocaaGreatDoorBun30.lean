import Derived.Test.YtpdahhnjhggocaaGreatDoorBun29
namespace Go.Proofs.YtpdahhnjhggocaaGreatDoor
open Go.RowKit
theorem keys_there {bs : List BAt} (h : sheetB (bs.map BAt.plain) = true) {b : BAt} (hb : b ∈ bs) {x : LAt} (hx : x ∈ b.ls) : pickR (rulesOf b.kind) x.key ≠ none := by
  have h1 := ((sheetB_iff.1 h).2.1 b.plain (List.mem_map_of_mem hb)).2.2.1 x.plain (List.mem_map_of_mem hx)
  intro e
  rw [show b.plain.kind = b.kind from rfl, show x.plain.key = x.key from rfl, fitsIn_none _ e] at h1
  cases h1
/-- What a call of changeLines leaves, handed on. -/
theorem trimS_change (bs : List PBlock) : trimS bs = changeS (fun R ls => ls.filter (keepT R)) bs := rfl
set_option maxHeartbeats 2000000 in
set_option maxRecDepth 100000 in
theorem implTrim_any {v : Value} {bs : List BAt} {w : World} (hbs : BlocksIn w v bs) (hsm : BlocksSmall bs) (hst : StdAt w) : Calls Tryz.prog 16 #[.agg #[v]] w fun e w' => ∃ v' bs', e = .returned (.agg #[v']) ∧ bs'.map BAt.plain = trimS (bs.map BAt.plain) ∧ BlocksOwn w.heap.size w' v' bs' ∧ Below w.heap.size w w' := by
  obtain ⟨ao, cap, rfl⟩ := hbs.1.form
  have G0 : Below w.heap.size w ((w.alloc (.cells #[.slice ao bs.length cap] 25)).alloc (.cells #[.slice none 0 0] 25)) := ((Below.refl _ _).alloc (Nat.le_refl _) _).alloc (by simp) _
  have hc := two_boxes (w := w) (cs := #[.slice ao bs.length cap]) (ds := #[.slice none 0 0]) (T := 25) (U := 25)
  have c0 := hc.1 0
  simp only [List.getElem?_toArray, List.getElem?_cons_zero] at c0
  have hz := alloc_here (w.alloc (.cells #[.slice ao bs.length cap] 25)) (.cells #[.slice none 0 0] 25)
  simp only [World.size_alloc] at hz
  have HC := changeLines_any (F := 62) (fun R ls => ls.filter (keepT R)) (hbs.below G0) hsm (hst.below G0) (enters_of Tryz.func62 (by kernel_rfl) rfl)
    (fun hok W B vr L x hx hpl hr hin => by
      have h := trimLines_any hr (rulesOf_twelve _ hpl) hin (hsm.2 x hx).2 (fun y hy => by rw [hpl]; exact keys_there hok hx hy) (fun r hr => (defs_small hpl hr).1)
      rw [hpl] at h
      exact h)
  rw [← trimS_change] at HC
  generalize trimS (bs.map BAt.plain) = TS at *
  clear hbs hsm hst hc
  generalize bs.length = nb at *
  go_enter Tryz.func16, Tryz.ntmps16
  go_wp2_with (go_at_call 60; refine HC.mono ?_)
  first | rintro e w2 v2 rfl bs2 hp2 o2 b2 | rintro e w2 v2 bs2 rfl hp2 o2 b2 | rintro e w2 ⟨v2, bs2, rfl, hp2, o2, b2⟩
  have b2' : Below ((w.alloc (.cells #[.slice ao nb cap] 25)).alloc (.cells #[.slice none 0 0] 25)).heap.size ((w.alloc (.cells #[.slice ao nb cap] 25)).alloc (.cells #[.slice none 0 0] 25)) w2 := by simpa using b2
  have o2' : BlocksOwn (w.heap.size + 2) w2 v2 bs2 := by simpa using o2
  have z1 := (b2'.block (w.heap.size + 1) (by simp)).trans hz
  have gw := G0.trans (b2'.mono G0.size)
  obtain ⟨qa, qc, rfl, _⟩ := own_form o2'.row
  have HM := hid_in o2'
  have HP := hid_in hp2
  clear HC o2 o2' hp2 b2 b2' c0 hz G0
  generalize bs2.length = n2 at *
  go_wp2_with (with_reducible show wpList _ _ _ (Oper.mk _ (Op.store _ (Operand.tmp 2) _) _ _ _ _ :: _) _ _; refine wpList_store_row rfl 25 _ _ rfl (w.heap.size + 1) #[.slice qa n2 qc] ?_ ?_ 25 _ z1 ?_ ?_ ?_ ?_)
  all_goals (first | rfl | kernel_rfl | exact sheet_size | skip)
  have z5 : (w2.setRow (w.heap.size + 1) #[.slice qa n2 qc]).heap[w.heap.size + 1]? = some (.cells #[.slice qa n2 qc] 25 (0, 0)) := setRow_heap _ _ _ _ _ _ z1
  have b5 : Below w.heap.size w (w2.setRow (w.heap.size + 1) #[.slice qa n2 qc]) :=
    ⟨gw.os, gw.tape, gw.output, by rw [setRow_size]; exact gw.size, fun k hk => by rw [setRow_other _ _ _ _ (by omega)]; exact gw.block k hk⟩
  have o5 := (HM.out.setRow (w.heap.size + 1) (by omega) #[.slice qa n2 qc]).mono (show w.heap.size ≤ w.heap.size + 2 by omega)
  have y0 := cell_of_block z5 0
  simp only [List.getElem?_toArray, List.getElem?_cons_zero] at y0
  generalize w2.setRow (w.heap.size + 1) #[.slice qa n2 qc] = W at b5 y0 z5 o5 ⊢
  first | exact bodyPost_ret (v := .agg #[.slice qa n2 qc]) (by simp [results, Tryz.results16, go_sem, y0]) rfl ⟨_, bs2, rfl, HP.out, o5, b5⟩ | exact bodyPost_ret (v := .agg #[.slice qa n2 qc]) (by simp [results, Tryz.results16, go_sem, y0]) rfl ⟨_, rfl, bs2, HP.out, o5, b5⟩
end Go.Proofs.YtpdahhnjhggocaaGreatDoor
namespace Go.Proofs.YtpdahhnjhggocaaGreatDoor
open Go.RowKit
set_option maxHeartbeats 1000000 in
theorem keyIsL_any (x : LAt) (rk : ByteArray) (g : Nat) {w : World} (hx : ∃ a n c, x.v = .slice a n c) (hg : w.cell? ⟨g, 0, none⟩ = some (.string rk)) : Calls Tryz.prog 167 #[.agg #[.string x.key, x.v], .pointer (some ⟨g, 0, none⟩)] w fun e w' => e = .returned (.bool (x.key.toList == rk.toList)) ∧ Below w.heap.size w w' := by
  obtain ⟨a, n, c, e1⟩ := hx
  rw [e1]
  have G := (Below.refl w.heap.size w).alloc (Nat.le_refl _) (.cells #[.string x.key, .slice a n c] 115)
  have hg' := (G.cell (World.block_lt_of_cell? w _ hg)).trans hg
  have k0 := one_box (w := w) (cs := #[.string x.key, .slice a n c]) (T := 115) 0
  simp only [List.getElem?_toArray, List.getElem?_cons_zero] at k0
  generalize x.key = xk at *
  go_enter Tryz.func167, Tryz.ntmps167
  go_wp2
  go_ret
  exact ⟨rfl, G⟩
/-- Where the search for a line with a key has come to. -/
def NoKeyTo (ls : List LAt) (k : ByteArray) (j : Nat) : Prop := ∀ x ∈ ls.take j, (x.key.toList == k.toList) = false
def FoundL (b : Bool) (w : World) (e : Ending) (w' : World) : Prop := (∃ n : Int, e = .returned (.int .i64 n) ∧ (decide (n ≥ 0)) = b) ∧ Below w.heap.size w w'
set_option maxHeartbeats 1000000 in
set_option maxRecDepth 100000 in
theorem indexLines_any {v : Value} {ls : List LAt} (key : ByteArray) (g : Nat) {w : World} (h : LinesIn w v ls) (hl : ls.length ≤ 1048576) (hg : w.cell? ⟨g, 0, none⟩ = some (.string key)) : Calls Tryz.prog 220 #[v, .func (.func 167) #[] #[.pointer (some ⟨g, 0, none⟩)]] w fun e w' => FoundL (hasK (ls.map LAt.plain) key) w e w' := by
  obtain ⟨ao, cap, rfl⟩ := h.1.form
  generalize hn : ls.length = n at *
  have en := hid_in hn
  clear hn
  go_enter Tryz.func220, Tryz.ntmps220
  go_wp2
  go_loopw [8] (fun i wr => ∃ j : Nat, j ≤ n ∧ i = .int .i64 (j : Int) ∧ Below w.heap.size w wr ∧ NoKeyTo ls key j) (fun i _ => n - (intOf i).toNat)
  case atStart => exact ⟨0, by omega, rfl, Below.refl _ _, by simp [NoKeyTo]⟩
  case round =>
    obtain ⟨j, hj, rfl, G, hA⟩ := hrel
    by_cases hlt : j < n
    · obtain ⟨D, x, T, e0, hD⟩ := split1 ls j (by have := en.out; omega)
      have h5 := h.below G
      have hxm : x ∈ ls := by rw [e0]; simp
      have h6 := h5
      rw [e0] at h6
      obtain ⟨b, off, rfl, c0, c1⟩ := h6.1.line
      obtain ⟨ax, cx, ex⟩ := HasRow.form (h5.2 x hxm)
      have hg' : wr.cell? ⟨g, 0, none⟩ = some (.string key) := (G.cell (World.block_lt_of_cell? w _ hg)).trans hg
      have H := keyIsL_any x key g ⟨_, _, _, ex⟩ hg'
      rw [ex] at H c1
      rw [hD] at c0 c1
      have i1 : (0 : Int) ≤ (j : Int) := by omega
      have i2 : (j : Int) < (n : Int) := by omega
      cases hk : (x.key.toList == key.toList)
      · have HA := hid_in (show NoKeyTo ls key (j + 1) from by
          unfold NoKeyTo at hA ⊢
          rw [e0, ← hD, take_front] at hA
          rw [e0, ← hD, take_one]
          intro y hy
          rcases List.mem_append.1 hy with hy | hy
          · exact hA y hy
          · rw [List.mem_singleton.1 hy]; exact hk)
        rw [hk] at H
        clear h h5 h6 hA hg hg' e0 hD hxm hk
        go_wp2_with (go_at_call 167; refine H.mono ?_)
        first | rintro e w1 rfl G1 | rintro e w1 ⟨rfl, G1⟩
        clear H
        go_wp2
        go_roundw
        case rel => exact ⟨j + 1, by omega, by go_num, G.trans (G1.mono G.size), HA.out⟩
        case measure => simp [intOf]; omega
      · have HA := hid_in (show hasK (ls.map LAt.plain) key = true from by
          unfold hasK
          rw [List.any_map, List.any_eq_true]
          exact ⟨x, hxm, hk⟩)
        rw [hk] at H
        clear h h5 h6 hA hg hg' e0 hD hxm hk
        go_wp2_with (go_at_call 167; refine H.mono ?_)
        first | rintro e w1 rfl G1 | rintro e w1 ⟨rfl, G1⟩
        clear H
        go_wp2
        go_ret
        exact ⟨⟨(j : Int), rfl, by rw [HA.out]; exact decide_eq_true i1⟩, G.trans (G1.mono G.size)⟩
    · obtain rfl : j = n := by omega
      have HA := hid_in (show hasK (ls.map LAt.plain) key = false from by
        unfold hasK
        rw [List.any_map, List.any_eq_false]
        unfold NoKeyTo at hA
        rw [← en.out, List.take_length] at hA
        intro x hx
        have := hA x hx
        show ¬ (x.key.toList == key.toList) = true
        rw [this]; decide)
      clear hA h
      go_wp2
      go_ret
      exact ⟨⟨-1, rfl, by rw [HA.out]; rfl⟩, G⟩
set_option maxHeartbeats 1000000 in
set_option maxRecDepth 100000 in
theorem containsLines_any {v : Value} {ls : List LAt} (key : ByteArray) (g : Nat) {w : World} (h : LinesIn w v ls) (hl : ls.length ≤ 1048576) (hg : w.cell? ⟨g, 0, none⟩ = some (.string key)) : Calls Tryz.prog 166 #[v, .func (.func 167) #[] #[.pointer (some ⟨g, 0, none⟩)]] w fun e w' => e = .returned (.bool (hasK (ls.map LAt.plain) key)) ∧ Below w.heap.size w w' := by
  have H := indexLines_any key g h hl hg
  generalize hasK (ls.map LAt.plain) key = K at *
  clear h hg
  obtain ⟨v0, hv0⟩ : ∃ v0, v0 = v := ⟨_, rfl⟩
  subst hv0
  go_enter Tryz.func166, Tryz.ntmps166
  go_wp2_with (go_at_call 220; refine H.mono ?_)
  rintro e w1 ⟨⟨n, rfl, hn⟩, b1⟩
  clear H
  subst hn
  go_wp2
  go_ret
  exact ⟨rfl, b1⟩
set_option maxHeartbeats 1000000 in
set_option maxRecDepth 100000 in
theorem hasKey_any {v : Value} {ls : List LAt} (key : ByteArray) {w : World} (h : LinesIn w v ls) (hl : ls.length ≤ 1048576) : Calls Tryz.prog 111 #[v, .string key] w fun e w' => e = .returned (.bool (hasK (ls.map LAt.plain) key)) ∧ Below w.heap.size w w' := by
  have G := (Below.refl w.heap.size w).alloc (Nat.le_refl _) (.cells #[.string key] 9)
  have k0 := one_box (w := w) (cs := #[.string key]) (T := 9) 0
  simp only [List.getElem?_toArray, List.getElem?_cons_zero] at k0
  have H := containsLines_any key w.heap.size (h.below G) hl k0
  generalize hasK (ls.map LAt.plain) key = K at *
  clear h
  go_enter Tryz.func111, Tryz.ntmps111
  go_wp2_with (go_at_call 166; refine H.mono ?_)
  first | rintro e w1 rfl b1 | rintro e w1 ⟨rfl, b1⟩
  clear H
  go_wp2
  go_ret
  exact ⟨rfl, G.trans (b1.mono (by simp))⟩
set_option maxHeartbeats 1000000 in
set_option maxRecDepth 100000 in
theorem cloneLines_any {v : Value} {ls : List LAt} {w : World} (h : LinesIn w v ls) (hl : ls.length ≤ 1048576) : Calls Tryz.prog 124 #[v] w fun e w' => ∃ ao cap, e = .returned (.slice ao ls.length cap) ∧ w'.ownsRow w.heap.size 115 2 (.slice ao ls.length cap) ls.length (ls.flatMap LAt.cells) ∧ Below w.heap.size w w' := by
  have hone := lcells_one (fun x hx => by obtain ⟨a, c, e⟩ := HasRow.form (h.2 x hx); exact ⟨a, _, c, e⟩)
  have hsl : (ls.flatMap LAt.cells).length = ls.length * 2 := rowF_len _ 2 LAt.len ls
  replace h := h.1
  obtain ⟨ao, cap, rfl⟩ := h.form
  generalize ls.flatMap LAt.cells = xs at *
  generalize ls.length = n at *
  obtain ⟨i0, hi, hz0, hz1, hz2⟩ := info_parts infoLine
  have q45 : ∀ (w : World) (a : Option Addr) (n c n' c' : Nat), (binOp .eql 44 (.slice a n c) (.slice none n' c')).run Tryz.prog w = .ok (.bool a.isNone) w := fun w a n c n' c' => Lib.run_eql_slice_nil w _ _ a n c n' c' Tryz.underlying44
  cases ao with
  | none =>
    have h0 : n = 0 := by
      obtain ⟨_, ao', c', hv, _, hc⟩ := h
      cases hv
      rcases hc with h0 | ⟨b, off, e, _⟩
      · exact h0
      · cases e
    have ho : w.ownsRow w.heap.size 115 2 (.slice none n 0) n xs := own_nil h0 (by omega)
    clear h
    subst h0
    go_enter Tryz.func124, Tryz.ntmps124
    go_wp2
    go_ret
    exact ⟨none, 0, rfl, ho, Below.refl _ _⟩
  | some a =>
    have b0 := (Below.refl w.heap.size w).alloc (Nat.le_refl _) (.cells #[] 115)
    have h1 := h.below b0
    have hown0 := World.ownsRow_lit (base := w.heap.size) (e := 115) (size := 2) w #[] 0 (Nat.le_refl _) (by decide) rfl
    clear h
    go_enter Tryz.func124, Tryz.ntmps124
    go_wp2_with (at_builtin; refine wpList_append_has (by rfl) _ _ 44 (by rfl) w.heap.size 115 i0 _ 2 40 Tryz.underlying44 hi hz0 hz1 hz2 rfl (by decide) _ 0 [] (by rfl) hown0 _ n xs (by rfl) h1 hone ?c3 ?c4 (by simp) ?_)
    case c3 => unfold maxLen; omega
    case c4 => omega
    intro ao' cap' w1 hown1 hg hb
    have hB := b0.grown hg (by simp) (fun k hk => (hown0.lt k hk).1)
    clear h1 hown0 hb hg
    go_wp2
    go_ret
    exact ⟨ao', cap', rfl, by simpa using hown1, hB⟩
end Go.Proofs.YtpdahhnjhggocaaGreatDoor
