import Derived.Test.YtlaejmehgaeobabGreatDoorValE
namespace Go.Proofs.YtlaejmehgaeobabGreatDoor
open Go.RowKit
/-- Lines up to a place have no fault behind those before them. -/
def FineTo (R : List Plain) (ls : List PLine) (k : Nat) : Prop := ∀ i a, i < k → ls[i]? = some a → lineFault R (ls.take i) a = 0
theorem FineTo.zero (R : List Plain) (ls : List PLine) : FineTo R ls 0 := fun _ _ h => by omega
theorem FineTo.succ {R : List Plain} {ls : List PLine} {k : Nat} {a : PLine} (h : FineTo R ls k) (ha : ls[k]? = some a) (hz : lineFault R (ls.take k) a = 0) : FineTo R ls (k + 1) := by
  intro i b hi hb
  by_cases e : i = k
  · subst e; rw [ha] at hb; cases hb; exact hz
  · exact h i b (by omega) hb
theorem fine_no {R : List Plain} {ls : List PLine} {k : Nat} {a : PLine} (ha : ls[k]? = some a) (hz : lineFault R (ls.take k) a ≠ 0) : false = linesB R ls := by
  rw [eq_comm, ← Bool.not_eq_true, linesB_iff]
  exact fun h => hz ((impl_linesOk h).1 k a ha)
open Classical in
theorem FineTo.all {R : List Plain} {ls : List PLine} (h : FineTo R ls ls.length) : descB (lineLt R) ls = linesB R ls := by
  rw [Bool.eq_iff_iff, linesB_iff]
  unfold descB
  rw [decide_eq_true_iff]
  constructor
  · intro hd
    exact linesOk_impl (fun i a ha => h i a (List.getElem?_eq_some_iff.1 ha).1 ha) hd
  · exact fun hok => (impl_linesOk hok).2
theorem LinesIn.take {w : World} {ao : Option Addr} {n cap : Nat} {ls : List LAt} (h : LinesIn w (.slice ao n cap) ls) (k : Nat) (hk : k ≤ ls.length) : LinesIn w (.slice ao k cap) (ls.take k) := by
  have hn : n = ls.length := by obtain ⟨_, _, _, e, _⟩ := h.1; cases e; rfl
  subst hn
  refine ⟨?_, fun x hx => h.2 x (List.mem_of_mem_take hx)⟩
  have := h.1.take k hk
  rw [rowF_take _ 2 LAt.len] at this
  rw [List.length_take, Nat.min_eq_left hk]
  exact this
theorem BlocksIn.take {w : World} {ao : Option Addr} {n cap : Nat} {bs : List BAt} (h : BlocksIn w (.slice ao n cap) bs) (k : Nat) (hk : k ≤ bs.length) : BlocksIn w (.slice ao k cap) (bs.take k) := by
  have hn : n = bs.length := by obtain ⟨_, _, _, e, _⟩ := h.1; cases e; rfl
  subst hn
  refine ⟨?_, fun x hx => h.2 x (List.mem_of_mem_take hx)⟩
  have := h.1.take k hk
  rw [rowF_take _ 3 BAt.len] at this
  rw [List.length_take, Nat.min_eq_left hk]
  exact this
/-- What is asked of the sizes of lines, of blocks. -/
def LinesSmall (ls : List LAt) : Prop := ls.length ≤ 1048576 ∧ ∀ x ∈ ls, x.ws.length ≤ 1048576 ∧ ∀ y ∈ x.ws, y.length ≤ 1048576
def BlocksSmall (bs : List BAt) : Prop := bs.length ≤ 1048576 ∧ ∀ b ∈ bs, b.name.size ≤ 1048576 ∧ LinesSmall b.ls
theorem lineOrderOf_any {v : Value} (hv : ∃ a n c, v = .slice a n c) (w : World) : Calls Tryz.prog 24 #[v] w fun e w' => e = .returned (.func (.func 57) #[] #[.pointer (some ⟨w.heap.size, 0, none⟩)]) ∧ w' = w.alloc (.cells #[v] 66) := by
  obtain ⟨a, n, c, rfl⟩ := hv
  go_enter Tryz.func24, Tryz.ntmps24
  go_wp2
  go_ret
  exact ⟨rfl, rfl⟩
set_option maxHeartbeats 4000000 in
set_option maxRecDepth 100000 in
theorem validLines_any (kind name : ByteArray) {vl : Value} {ls : List LAt} {w : World} (hls : LinesIn w vl ls) (hsm : LinesSmall ls) (hst : StdAt w) : Calls Tryz.prog 74 #[.agg #[.string kind, .string name, vl]] w fun e w' => e = .returned (.bool (linesB (rulesOf kind) (ls.map LAt.plain))) ∧ Below w.heap.size w w' := by
  obtain ⟨al, cl, rfl⟩ := hls.1.form
  have hcap := hls.1.cap
  have hn20 := hsm.1
  have b0 : Below w.heap.size w (w.alloc (.cells #[.string kind, .string name, .slice al ls.length cl] 44)) := (Below.refl _ _).alloc (Nat.le_refl _) _
  have hc0 := one_box (w := w) (cs := #[.string kind, .string name, .slice al ls.length cl]) (T := 44)
  have HR := implRules_any kind (w.alloc (.cells #[.string kind, .string name, .slice al ls.length cl] 44))
  have hlike := rulesOf_like kind
  generalize hn : ls.length = n at *
  generalize hPL : ls.map LAt.plain = PL
  have hP := hid_in hPL
  have hN := hid_in hn
  clear hPL hn
  have hPn : PL.length = n := by rw [← hP.out, List.length_map, hN.out]
  have hPN := hid_in hPn
  clear hPn
  generalize rulesOf kind = R at *
  go_enter Tryz.func74, Tryz.ntmps74
  go_wp2_with (go_at_call 25; refine HR.mono ?_)
  rintro e w1 ⟨vr, L, rfl, hp, hr, b1⟩
  clear HR
  have b1' : Below (w.heap.size + 1) (w.alloc (.cells #[.string kind, .string name, .slice al n cl] 44)) w1 := by rw [← size_alloc']; exact b1
  have b01 : Below w.heap.size w w1 := b0.trans (b1.mono (by simp))
  have p0 := box_there b1' 0
  have p2 := box_there b1' 2
  simp only [List.getElem?_toArray, List.getElem?_cons_zero, List.getElem?_cons_succ] at p0 p2
  clear hc0 b1 b1' b0
  have hrf := (RulesAt.rin hr).1.form
  obtain ⟨ar, cr, rfl⟩ := hrf
  have hL := hid_in (rfl : L.length = L.length)
  generalize hm : L.length = m at *
  have hM := hid_in hm
  clear hm hL
  go_wp2
  go_loopw [12] (fun i wr => ∃ j : Nat, j ≤ n ∧ i = .int .i64 (j : Int) ∧ Below w1.heap.size w1 wr ∧ FineTo R PL j) (fun i _ => n - (intOf i).toNat)
  case atStart => exact ⟨0, by omega, rfl, Below.refl _ _, FineTo.zero _ _⟩
  case round =>
    obtain ⟨j, hj, rfl, hbw, hA⟩ := hrel
    have b5 := b01.trans (hbw.mono b01.size)
    have l0 := World.block_lt_of_cell? w1 _ p2
    have p2' := (hbw.cell (p := ⟨w.heap.size, 2, none⟩) l0).trans p2
    have l0' := World.block_lt_of_cell? wr _ p2'
    by_cases hlt : j < n
    · obtain ⟨D, x, T, e0, hD⟩ := split1 ls j (by have := hN.out; omega)
      have hls5 := hls.below b5
      have hls6 := hls5
      rw [e0] at hls6
      obtain ⟨g, off, rfl, c1, c2⟩ := hls6.1.line
      have hxm : x ∈ ls := by rw [e0]; simp
      obtain ⟨ax, cx, e1⟩ := (hls5.2 x hxm).form
      rw [hD] at c1 c2
      rw [e1] at c2
      have hPx : PL[j]? = some x.plain := by rw [← hP.out, e0, ← hD]; simp
      have hPt : (ls.take j).map LAt.plain = PL.take j := by rw [← hP.out, List.map_take]
      have hA1 := fun h => hA.succ hPx h
      have hA2 := fun h => fine_no (R := R) hPx h
      have H : ∀ (W : World), Below wr.heap.size wr W → Calls Tryz.prog 124 #[.slice ar m cr, .slice (some ⟨g, off, none⟩) j cl, .agg #[.string x.key, .slice ax x.ws.length cx]] W fun e w' => e = .returned (.int .i64 (lineFault R (PL.take j) x.plain)) ∧ Below W.heap.size W w' := by
        intro W hW
        have b6 := b5.trans (hW.mono b5.size)
        have hxs := hsm.2 x hxm
        rw [← hPt, ← hp]
        refine lineFault_any x.plain (Mem.below (Mem.below hr hbw) hW) (by rw [hp]; exact hlike) ((hls5.below hW).take j (by have := hN.out; omega)) ?_ (fun y hy => (hsm.2 y (List.mem_of_mem_take hy)).1) (e1 ▸ (hls5.below hW).2 x hxm) hxs.1 hxs.2 (hst.below b6)
        rw [List.length_take]; have := hsm.1; have := hN.out; omega
      clear hls hls5 hls6 hst hsm hr hlike hA e0 e1 hPx hPt p0 hN hP hPN hp
      generalize lineFault R (PL.take j) x.plain = F at *
      generalize x.ws.length = nx at *
      generalize x.key = xk at *
      have g6 : Below wr.heap.size wr (wr.alloc (.cells #[.string xk, .slice ax nx cx] 63)) := (Below.refl _ _).alloc (Nat.le_refl _) _
      have k0 := (g6.cell (p := ⟨w.heap.size, 2, none⟩) l0').trans p2'
      have k1 := one_box (w := wr) (cs := #[.string xk, .slice ax nx cx]) (T := 63) 0
      have k2 := one_box (w := wr) (cs := #[.string xk, .slice ax nx cx]) (T := 63) 1
      simp only [List.getElem?_toArray, List.getElem?_cons_zero, List.getElem?_cons_succ] at k1 k2
      have i0 : (0 : Int) ≤ (j : Int) := by omega
      have i1 : (j : Int) ≤ (cl : Int) := by have := hcap.1; omega
      by_cases hz : F = 0
      · have HA := hA1 hz
        rw [hz] at H
        clear hA1 hA2 hz
        go_wp2
        go_region_held3 (fun W' => W'.cell? ⟨w.heap.size, 2, none⟩ = some (.slice (some ⟨g, off, none⟩) n cl) ∧ W'.cell? ⟨wr.heap.size, 0, none⟩ = some (.string xk) ∧ W'.cell? ⟨wr.heap.size, 1, none⟩ = some (.slice ax nx cx))
          (first | exact ⟨k0, k1, k2⟩ | exact ⟨(b7.cell (by simp; omega)).trans k0, (b7.cell (by simp)).trans k1, (b7.cell (by simp)).trans k2⟩)
          (first | (go_at_call 124; refine (H _ g6.drew).mono ?_; rintro e w7 ⟨rfl, b7⟩))
        all_goals
          go_wp2
          go_roundw
          case rel => exact ⟨j + 1, by omega, by go_num, hbw.trans ((g6.drew.trans (b7.mono (by simp))).mono hbw.size), HA⟩
          case measure => simp [intOf]; omega
      · have HA := hid_in (hA2 hz)
        have hz' : (F != 0) = true := by rw [bne_iff_ne]; exact hz
        clear hA1 hA2 hz
        go_wp2
        go_region_held3 (fun W' => W'.cell? ⟨w.heap.size, 2, none⟩ = some (.slice (some ⟨g, off, none⟩) n cl) ∧ W'.cell? ⟨wr.heap.size, 0, none⟩ = some (.string xk) ∧ W'.cell? ⟨wr.heap.size, 1, none⟩ = some (.slice ax nx cx))
          (first | exact ⟨k0, k1, k2⟩ | exact ⟨(b7.cell (by simp; omega)).trans k0, (b7.cell (by simp)).trans k1, (b7.cell (by simp)).trans k2⟩)
          (first | (go_at_call 124; refine (H _ g6.drew).mono ?_; rintro e w7 ⟨rfl, b7⟩))
        all_goals
          go_wp2
          go_ret
          exact ⟨ret_bool HA.out, b5.trans ((g6.drew.trans (b7.mono (by simp))).mono b5.size)⟩
    · obtain rfl : j = n := by omega
      have hE := hid_in (show descB (lineLt R) PL = linesB R PL from FineTo.all (by rw [hPN.out]; exact hA))
      have H : ∀ (W : World), Below wr.heap.size wr W → Calls Tryz.prog 125 #[.slice al j cl, .func (.func 57) #[] #[.pointer (some ⟨W.heap.size, 0, none⟩)]] (W.alloc (.cells #[.slice ar m cr] 66)) fun e w' => e = .returned (.bool (linesB R PL)) ∧ Below wr.heap.size wr w' := by
        intro W hW
        have g7 : Below W.heap.size W (W.alloc (.cells #[.slice ar m cr] 66)) := (Below.refl _ _).alloc (Nat.le_refl _) _
        have hW7 := hW.trans (g7.mono hW.size)
        have b6 := b5.trans (hW7.mono b5.size)
        have hsx := sortedLines_any (RL := L) W.heap.size (hls.below b6) (by have := hsm.1; have := hN.out; omega) (fun x hx => (hsm.2 x hx).1) (RulesAt.rin (Mem.below (Mem.below hr hbw) hW7)) (by have := hlike.1; rw [← hp, List.length_map] at this; exact this) (one_box (w := W) 0)
        rw [hp, hP.out, hE.out] at hsx
        exact hsx.mono fun e w' ⟨he, hG⟩ => ⟨he, hW7.trans (hG.1.mono hW7.size)⟩
      have HO := fun W => lineOrderOf_any (v := .slice ar m cr) ⟨_, _, _, rfl⟩ W
      have hdr : Below wr.heap.size wr wr.drew := (Below.refl _ _).drew
      clear hls hst hsm hr hlike hA hN hP hPN hp p0 hE
      go_wp2
      go_region_held3 (fun W' => W'.cell? ⟨w.heap.size, 2, none⟩ = some (.slice al j cl))
        (first | exact p2' | exact (b7.cell l0').trans p2' | go_keep)
        (first | (go_at_call 24; refine (HO _).mono ?_; rintro e w7 ⟨rfl, rfl⟩) | (go_at_call 125; refine (H _ hdr).mono ?_; rintro e w7 ⟨rfl, b7⟩))
      all_goals
        go_wp2
        go_ret
        exact ⟨rfl, b5.trans (b7.mono b5.size)⟩
/-- Blocks up to a place are as they must be, the order aside. -/
def SoundTo (bs : List PBlock) (k : Nat) : Prop := ∀ i b, i < k → bs[i]? = some b → headFault (bs.take i) b.kind b.name = 0 ∧ LinesOk (rulesOf b.kind) b.lines
theorem SoundTo.zero (bs : List PBlock) : SoundTo bs 0 := fun _ _ h => by omega
theorem SoundTo.succ {bs : List PBlock} {k : Nat} {b : PBlock} (h : SoundTo bs k) (hb : bs[k]? = some b) (hz : headFault (bs.take k) b.kind b.name = 0) (hl : linesB (rulesOf b.kind) b.lines = true) : SoundTo bs (k + 1) := by
  intro i c hi hc
  by_cases e : i = k
  · subst e; rw [hb] at hc; cases hc; exact ⟨hz, linesB_iff.1 hl⟩
  · exact h i c (by omega) hc
theorem sound_head {bs : List PBlock} {k : Nat} {b : PBlock} (hb : bs[k]? = some b) (hz : headFault (bs.take k) b.kind b.name ≠ 0) : false = sheetB bs := by
  rw [eq_comm, ← Bool.not_eq_true, sheetB_iff]
  exact fun h => hz ((impl_sheetOk h).1 k b hb).1
theorem sound_lines {bs : List PBlock} {k : Nat} {b : PBlock} (hb : bs[k]? = some b) (hl : linesB (rulesOf b.kind) b.lines = false) : false = sheetB bs := by
  rw [eq_comm, ← Bool.not_eq_true, sheetB_iff]
  intro h
  rw [linesB_iff.2 ((impl_sheetOk h).1 k b hb).2] at hl
  cases hl
open Classical in
theorem SoundTo.all {bs : List PBlock} (h : SoundTo bs bs.length) : descB blockLt bs = sheetB bs := by
  rw [Bool.eq_iff_iff, sheetB_iff]
  unfold descB
  rw [decide_eq_true_iff]
  constructor
  · intro hd
    exact sheetOk_impl (fun i b hb => h i b (List.getElem?_eq_some_iff.1 hb).1 hb) hd
  · exact fun hok => (impl_sheetOk hok).2
theorem val_keep {W W1 : World} {a1 a2 a3 a4 : Addr} {v1 v2 v3 v4 : Value} {B : Nat} {w0 : World} (hS : Below B w0 W ∧ w0.heap.size ≤ W.heap.size ∧ W.cell? a1 = some v1 ∧ W.cell? a2 = some v2 ∧ W.cell? a3 = some v3 ∧ W.cell? a4 = some v4) (hB : B ≤ w0.heap.size) (G : Below W.heap.size W W1) :
    Below B w0 W1 ∧ w0.heap.size ≤ W1.heap.size ∧ W1.cell? a1 = some v1 ∧ W1.cell? a2 = some v2 ∧ W1.cell? a3 = some v3 ∧ W1.cell? a4 = some v4 := by
  obtain ⟨h0, h00, h1, h2, h3, h4⟩ := hS
  have kc : ∀ {a : Addr} {u : Value}, W.cell? a = some u → W1.cell? a = some u := fun hc => (G.cell (World.block_lt_of_cell? W _ hc)).trans hc
  exact ⟨h0.trans (G.mono (by omega)), Nat.le_trans h00 G.size, kc h1, kc h2, kc h3, kc h4⟩
set_option maxHeartbeats 4000000 in
set_option maxRecDepth 100000 in
theorem implValid_any {v : Value} {bs : List BAt} {w : World} (hbs : BlocksIn w v bs) (hsm : BlocksSmall bs) (hst : StdAt w) : Calls Tryz.prog 35 #[.agg #[v]] w fun e w' => e = .returned (.bool (sheetB (bs.map BAt.plain))) ∧ Below w.heap.size w w' := by
  obtain ⟨al, cl, rfl⟩ := hbs.1.form
  have hcap := hbs.1.cap
  have hn20 := hsm.1
  have b0 : Below w.heap.size w (w.alloc (.cells #[.slice al bs.length cl] 24)) := (Below.refl _ _).alloc (Nat.le_refl _) _
  have p0 := one_box (w := w) (cs := #[.slice al bs.length cl]) (T := 24) 0
  simp only [List.getElem?_toArray, List.getElem?_cons_zero] at p0
  generalize hn : bs.length = n at *
  generalize hPL : bs.map BAt.plain = PL
  have hP := hid_in hPL
  have hN := hid_in hn
  have hPN := hid_in (show PL.length = n by rw [← hPL, List.length_map, hn])
  clear hPL hn
  go_enter Tryz.func35, Tryz.ntmps35
  go_wp2
  generalize hW0 : w.alloc (.cells #[.slice al n cl] 24) = w1 at *
  clear hW0
  go_loopw [8] (fun i wr => ∃ j : Nat, j ≤ n ∧ i = .int .i64 (j : Int) ∧ Below w1.heap.size w1 wr ∧ SoundTo PL j) (fun i _ => n - (intOf i).toNat)
  case atStart => exact ⟨0, by omega, rfl, Below.refl _ _, SoundTo.zero _⟩
  case round =>
    obtain ⟨j, hj, rfl, hbw, hA⟩ := hrel
    have b5 := b0.trans (hbw.mono b0.size)
    have l0 := World.block_lt_of_cell? w1 _ p0
    have p0' := (hbw.cell (p := ⟨w.heap.size, 0, none⟩) l0).trans p0
    have l0' := World.block_lt_of_cell? wr _ p0'
    by_cases hlt : j < n
    · obtain ⟨D, x, T, e0, hD⟩ := split1 bs j (by have := hN.out; omega)
      have hbs5 := hbs.below b5
      have hbs6 := hbs5
      rw [e0] at hbs6
      obtain ⟨g, off, rfl, c1, c2, c3⟩ := hbs6.1.block
      have hxm : x ∈ bs := by rw [e0]; simp
      have hxs := hsm.2 x hxm
      obtain ⟨ax, cx, e1⟩ := (hbs5.2 x hxm).1.form
      rw [hD] at c1 c2 c3
      rw [e1] at c3
      have hPx : PL[j]? = some x.plain := by rw [← hP.out, e0, ← hD]; simp
      have hPt : (bs.take j).map BAt.plain = PL.take j := by rw [← hP.out, List.map_take]
      have hA1 := fun h h' => hA.succ hPx h h'
      have hA2 := fun h => sound_head hPx h
      have hA3 := fun h => sound_lines hPx h
      have H1 : ∀ (W : World), Below wr.heap.size wr W → Calls Tryz.prog 73 #[.slice (some ⟨g, off, none⟩) j cl, .string x.kind, .string x.name] W fun e w' => e = .returned (.int .i64 (headFault (PL.take j) x.plain.kind x.plain.name)) ∧ Below W.heap.size W w' := by
        intro W hW
        rw [← hPt]
        exact headFault_any x.kind x.name ((hbs5.below hW).take j (by have := hN.out; omega)) (by rw [List.length_take]; have := hsm.1; omega) hxs.1
      have H2 : ∀ (W : World), Below wr.heap.size wr W → Calls Tryz.prog 74 #[.agg #[.string x.kind, .string x.name, .slice ax x.ls.length cx]] W fun e w' => e = .returned (.bool (linesB (rulesOf x.plain.kind) x.plain.lines)) ∧ Below W.heap.size W w' := by
        intro W hW
        have b6 := b5.trans (hW.mono b5.size)
        exact validLines_any x.kind x.name (e1 ▸ (hbs5.below hW).2 x hxm) hxs.2 (hst.below b6)
      clear hbs hbs5 hbs6 hst hsm hA e0 e1 hPx hPt hN hP hPN hxs
      generalize headFault (PL.take j) x.plain.kind x.plain.name = F at *
      generalize linesB (rulesOf x.plain.kind) x.plain.lines = LB at *
      generalize x.ls.length = nx at *
      generalize x.kind = xk at *
      generalize x.name = xn at *
      have g6 : Below wr.heap.size wr (wr.alloc (.cells #[.string xk, .string xn, .slice ax nx cx] 44)) := (Below.refl _ _).alloc (Nat.le_refl _) _
      have k0 := (g6.cell (p := ⟨w.heap.size, 0, none⟩) l0').trans p0'
      have k1 := one_box (w := wr) (cs := #[.string xk, .string xn, .slice ax nx cx]) (T := 44) 0
      have k2 := one_box (w := wr) (cs := #[.string xk, .string xn, .slice ax nx cx]) (T := 44) 1
      have k3 := one_box (w := wr) (cs := #[.string xk, .string xn, .slice ax nx cx]) (T := 44) 2
      simp only [List.getElem?_toArray, List.getElem?_cons_zero, List.getElem?_cons_succ] at k1 k2 k3
      have i0 : (0 : Int) ≤ (j : Int) := by omega
      have i1 : (j : Int) ≤ (cl : Int) := by have := hcap.1; omega
      have hsz := size_alloc' wr (.cells #[.string xk, .string xn, .slice ax nx cx] 44)
      have m0 : w.heap.size < (wr.alloc (.cells #[.string xk, .string xn, .slice ax nx cx] 44)).drew.heap.size := by rw [World.size_drew, hsz]; exact Nat.lt_succ_of_lt l0'
      have m1 : wr.heap.size < (wr.alloc (.cells #[.string xk, .string xn, .slice ax nx cx] 44)).drew.heap.size := by rw [World.size_drew, hsz]; exact Nat.lt_succ_self _
      have gd := g6.drew
      have hS : Below wr.heap.size wr (wr.alloc (.cells #[.string xk, .string xn, .slice ax nx cx] 44)).drew ∧ wr.heap.size ≤ (wr.alloc (.cells #[.string xk, .string xn, .slice ax nx cx] 44)).drew.heap.size ∧ (wr.alloc (.cells #[.string xk, .string xn, .slice ax nx cx] 44)).drew.cell? ⟨w.heap.size, 0, none⟩ = some (.slice (some ⟨g, off, none⟩) n cl) ∧ (wr.alloc (.cells #[.string xk, .string xn, .slice ax nx cx] 44)).drew.cell? ⟨wr.heap.size, 0, none⟩ = some (.string xk) ∧ (wr.alloc (.cells #[.string xk, .string xn, .slice ax nx cx] 44)).drew.cell? ⟨wr.heap.size, 1, none⟩ = some (.string xn) ∧ (wr.alloc (.cells #[.string xk, .string xn, .slice ax nx cx] 44)).drew.cell? ⟨wr.heap.size, 2, none⟩ = some (.slice ax nx cx) := ⟨gd, gd.size, k0, k1, k2, k3⟩
      clear m0 m1 hsz g6 p0 l0 hcap hD hxm hj
      by_cases hz : F = 0
      · rw [hz] at H1
        clear k0 k1 k2 k3 p0'
        cases LB
        · have HA := hid_in (hA3 rfl)
          clear hA1 hA2 hA3
          go_wp2
          go_region_held3 (fun W' => Below wr.heap.size wr W' ∧ wr.heap.size ≤ W'.heap.size ∧ W'.cell? ⟨w.heap.size, 0, none⟩ = some (.slice (some ⟨g, off, none⟩) n cl) ∧ W'.cell? ⟨wr.heap.size, 0, none⟩ = some (.string xk) ∧ W'.cell? ⟨wr.heap.size, 1, none⟩ = some (.string xn) ∧ W'.cell? ⟨wr.heap.size, 2, none⟩ = some (.slice ax nx cx))
            (first | assumption | exact hS | exact val_keep (by assumption) (Nat.le_refl _) (by assumption))
            (first | (go_at_call 73; refine (H1 _ (And.left (by assumption))).mono ?_; rintro e w7 ⟨rfl, b7⟩) | (go_at_call 74; refine (H2 _ (And.left (by assumption))).mono ?_; rintro e w8 ⟨rfl, b8⟩))
          all_goals
            rename_i hQ
            have G1 := hQ.1
            clear hQ hS b7 b8 H1 H2
            go_wp2
            go_ret
            exact ⟨ret_bool HA.out, b5.trans (G1.mono b5.size)⟩
        · have HA := hA1 hz rfl
          clear hA1 hA2 hA3
          go_wp2
          go_region_held3 (fun W' => Below wr.heap.size wr W' ∧ wr.heap.size ≤ W'.heap.size ∧ W'.cell? ⟨w.heap.size, 0, none⟩ = some (.slice (some ⟨g, off, none⟩) n cl) ∧ W'.cell? ⟨wr.heap.size, 0, none⟩ = some (.string xk) ∧ W'.cell? ⟨wr.heap.size, 1, none⟩ = some (.string xn) ∧ W'.cell? ⟨wr.heap.size, 2, none⟩ = some (.slice ax nx cx))
            (first | assumption | exact hS | exact val_keep (by assumption) (Nat.le_refl _) (by assumption))
            (first | (go_at_call 73; refine (H1 _ (And.left (by assumption))).mono ?_; rintro e w7 ⟨rfl, b7⟩) | (go_at_call 74; refine (H2 _ (And.left (by assumption))).mono ?_; rintro e w8 ⟨rfl, b8⟩))
          all_goals
            rename_i hQ
            have G1 := hQ.1
            clear hQ hS b7 b8 H1 H2
            go_wp2
            go_roundw
            case rel => exact ⟨j + 1, by omega, by go_num, hbw.trans (G1.mono hbw.size), HA⟩
            case measure => simp [intOf]; omega
      · have HA := hid_in (hA2 hz)
        have hz' : (F != 0) = true := by rw [bne_iff_ne]; exact hz
        clear hA1 hA2 hA3 hz H2 hS p0'
        go_wp2
        go_region_with (first
          | (go_at_call 73; refine (H1 _ gd).mono ?_; rintro e w7 ⟨rfl, b7⟩))
        all_goals
          go_wp2
          go_ret
          exact ⟨ret_bool HA.out, b5.trans ((gd.trans (b7.mono gd.size)).mono b5.size)⟩
    · obtain rfl : j = n := by omega
      have hE := hid_in (show descB blockLt PL = sheetB PL from SoundTo.all (by rw [hPN.out]; exact hA))
      have H := sortedBlocks_any (hbs.below b5) (by have := hsm.1; omega)
      rw [hP.out, hE.out] at H
      clear hbs hsm hst hA hN hP hPN hE
      go_wp2_with (go_at_call 75; refine H.mono ?_; rintro e w7 ⟨rfl, G7⟩)
      go_ret
      exact ⟨rfl, b5.trans (G7.1.mono b5.size)⟩
end Go.Proofs.YtlaejmehgaeobabGreatDoor
