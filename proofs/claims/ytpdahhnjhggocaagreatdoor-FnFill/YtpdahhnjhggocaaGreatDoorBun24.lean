import Derived.Test.YtpdahhnjhggocaaGreatDoorBun23
namespace Go.Proofs.YtpdahhnjhggocaaGreatDoor
open Go.RowKit
/-- Lines up to a place have no fault behind those before them. -/
def FineTo (R : List Plain) (ls : List PLine) (k : Nat) : Prop := ∀ i a, i < k → ls[i]? = some a → lineFault R (ls.take i) a = 0
theorem FineTo.zero (R : List Plain) (ls : List PLine) : FineTo R ls 0 := fun _ _ h => by omega
theorem FineTo.succ {R : List Plain} {ls : List PLine} {k : Nat} {a : PLine} (h : FineTo R ls k) (ha : ls[k]? = some a) (hz : lineFault R (ls.take k) a = 0) : FineTo R ls (k + 1) := by
  intro i b hi hb
  by_cases e : i = k
  · subst e; rw [ha] at hb; cases hb; exact hz
  · exact h i b (by omega) hb
theorem fine_no {R : List Plain} {ls : List PLine} {k : Nat} {a : PLine} (ha : ls[k]? = some a) (hz : lineFault R (ls.take k) a ≠ 0) : false = linesB R ls := by
  rw [eq_comm, ← Bool.not_eq_true, linesB_iff]
  exact fun h => hz ((impl_linesOk h).1 k a ha)
open Classical in
theorem FineTo.all {R : List Plain} {ls : List PLine} (h : FineTo R ls ls.length) : descB (lineLt R) ls = linesB R ls := by
  rw [Bool.eq_iff_iff, linesB_iff]
  unfold descB
  rw [decide_eq_true_iff]
  constructor
  · intro hd
    exact linesOk_impl (fun i a ha => h i a (List.getElem?_eq_some_iff.1 ha).1 ha) hd
  · exact fun hok => (impl_linesOk hok).2
theorem LinesIn.take {w : World} {ao : Option Addr} {n cap : Nat} {ls : List LAt} (h : LinesIn w (.slice ao n cap) ls) (k : Nat) (hk : k ≤ ls.length) : LinesIn w (.slice ao k cap) (ls.take k) := by
  have hn : n = ls.length := by obtain ⟨_, _, _, e, _⟩ := h.1; cases e; rfl
  subst hn
  refine ⟨?_, fun x hx => h.2 x (List.mem_of_mem_take hx)⟩
  have := h.1.take k hk
  rw [rowF_take _ 2 LAt.len] at this
  rw [List.length_take, Nat.min_eq_left hk]
  exact this
theorem BlocksIn.take {w : World} {ao : Option Addr} {n cap : Nat} {bs : List BAt} (h : BlocksIn w (.slice ao n cap) bs) (k : Nat) (hk : k ≤ bs.length) : BlocksIn w (.slice ao k cap) (bs.take k) := by
  have hn : n = bs.length := by obtain ⟨_, _, _, e, _⟩ := h.1; cases e; rfl
  subst hn
  refine ⟨?_, fun x hx => h.2 x (List.mem_of_mem_take hx)⟩
  have := h.1.take k hk
  rw [rowF_take _ 3 BAt.len] at this
  rw [List.length_take, Nat.min_eq_left hk]
  exact this
/-- What is asked of the sizes of lines, of blocks. -/
def LinesSmall (ls : List LAt) : Prop := ls.length ≤ 1048576 ∧ ∀ x ∈ ls, x.ws.length ≤ 1048576 ∧ ∀ y ∈ x.ws, y.length ≤ 1048576
def BlocksSmall (bs : List BAt) : Prop := bs.length ≤ 1048576 ∧ ∀ b ∈ bs, b.name.size ≤ 1048576 ∧ LinesSmall b.ls
theorem lineOrderOf_any {v : Value} (hv : ∃ a n c, v = .slice a n c) (w : World) : Calls Tryz.prog 75 #[v] w fun e w' => e = .returned (.func (.func 147) #[] #[.pointer (some ⟨w.heap.size, 0, none⟩)]) ∧ w' = w.alloc (.cells #[v] 47) := by
  obtain ⟨a, n, c, rfl⟩ := hv
  go_enter Tryz.func75, Tryz.ntmps75
  go_wp2
  go_ret
  exact ⟨rfl, rfl⟩
set_option maxHeartbeats 4000000 in
set_option maxRecDepth 100000 in
theorem validLines_any (kind name : ByteArray) {vl : Value} {ls : List LAt} {w : World} (hls : LinesIn w vl ls) (hsm : LinesSmall ls) (hst : StdAt w) : Calls Tryz.prog 67 #[.agg #[.string kind, .string name, vl]] w fun e w' => e = .returned (.bool (linesB (rulesOf kind) (ls.map LAt.plain))) ∧ Below w.heap.size w w' := by
  obtain ⟨al, cl, rfl⟩ := hls.1.form
  have hcap := hls.1.cap
  have hn20 := hsm.1
  have b0 : Below w.heap.size w (w.alloc (.cells #[.string kind, .string name, .slice al ls.length cl] 46)) := (Below.refl _ _).alloc (Nat.le_refl _) _
  have hc0 := one_box (w := w) (cs := #[.string kind, .string name, .slice al ls.length cl]) (T := 46)
  have HR := implRules_any kind (w.alloc (.cells #[.string kind, .string name, .slice al ls.length cl] 46))
  have hlike := rulesOf_like kind
  generalize hn : ls.length = n at *
  generalize hPL : ls.map LAt.plain = PL
  have hP := hid_in hPL
  have hN := hid_in hn
  clear hPL hn
  have hPn : PL.length = n := by rw [← hP.out, List.length_map, hN.out]
  have hPN := hid_in hPn
  clear hPn
  generalize rulesOf kind = R at *
  go_enter Tryz.func67, Tryz.ntmps67
  go_wp2_with (go_at_call 29; refine HR.mono ?_)
  rintro e w1 ⟨vr, L, rfl, hp, hr, b1⟩
  clear HR
  have b1' : Below (w.heap.size + 1) (w.alloc (.cells #[.string kind, .string name, .slice al n cl] 46)) w1 := by rw [← size_alloc']; exact b1
  have b01 : Below w.heap.size w w1 := b0.trans (b1.mono (by simp))
  have p0 := box_there b1' 0
  have p2 := box_there b1' 2
  simp only [List.getElem?_toArray, List.getElem?_cons_zero, List.getElem?_cons_succ] at p0 p2
  clear hc0 b1 b1' b0
  have hrf := (RulesAt.rin hr).1.form
  obtain ⟨ar, cr, rfl⟩ := hrf
  have hL := hid_in (rfl : L.length = L.length)
  generalize hm : L.length = m at *
  have hM := hid_in hm
  clear hm hL
  go_wp2
  go_loopw [12] (fun i wr => ∃ j : Nat, j ≤ n ∧ i = .int .i64 (j : Int) ∧ Below w1.heap.size w1 wr ∧ FineTo R PL j) (fun i _ => n - (intOf i).toNat)
  case atStart => exact ⟨0, by omega, rfl, Below.refl _ _, FineTo.zero _ _⟩
  case round =>
    obtain ⟨j, hj, rfl, hbw, hA⟩ := hrel
    have b5 := b01.trans (hbw.mono b01.size)
    have l0 := World.block_lt_of_cell? w1 _ p2
    have p2' := (hbw.cell (p := ⟨w.heap.size, 2, none⟩) l0).trans p2
    have l0' := World.block_lt_of_cell? wr _ p2'
    by_cases hlt : j < n
    · obtain ⟨D, x, T, e0, hD⟩ := split1 ls j (by have := hN.out; omega)
      have hls5 := hls.below b5
      have hls6 := hls5
      rw [e0] at hls6
      obtain ⟨g, off, rfl, c1, c2⟩ := hls6.1.line
      have hxm : x ∈ ls := by rw [e0]; simp
      obtain ⟨ax, cx, e1⟩ := (hls5.2 x hxm).form
      rw [hD] at c1 c2
      rw [e1] at c2
      have hPx : PL[j]? = some x.plain := by rw [← hP.out, e0, ← hD]; simp
      have hPt : (ls.take j).map LAt.plain = PL.take j := by rw [← hP.out, List.map_take]
      have hA1 := fun h => hA.succ hPx h
      have hA2 := fun h => fine_no (R := R) hPx h
      have H : ∀ (W : World), Below wr.heap.size wr W → Calls Tryz.prog 135 #[.slice ar m cr, .slice (some ⟨g, off, none⟩) j cl, .agg #[.string x.key, .slice ax x.ws.length cx]] W fun e w' => e = .returned (.int .i64 (lineFault R (PL.take j) x.plain)) ∧ Below W.heap.size W w' := by
        intro W hW
        have b6 := b5.trans (hW.mono b5.size)
        have hxs := hsm.2 x hxm
        rw [← hPt, ← hp]
        refine lineFault_any x.plain (Mem.below (Mem.below hr hbw) hW) (by rw [hp]; exact hlike) ((hls5.below hW).take j (by have := hN.out; omega)) ?_ (fun y hy => (hsm.2 y (List.mem_of_mem_take hy)).1) (e1 ▸ (hls5.below hW).2 x hxm) hxs.1 hxs.2 (hst.below b6)
        rw [List.length_take]; have := hsm.1; have := hN.out; omega
      clear hls hls5 hls6 hst hsm hr hlike hA e0 e1 hPx hPt p0 hN hP hPN hp
      generalize lineFault R (PL.take j) x.plain = F at *
      generalize x.ws.length = nx at *
      generalize x.key = xk at *
      have g6 : Below wr.heap.size wr (wr.alloc (.cells #[.string xk, .slice ax nx cx] 115)) := (Below.refl _ _).alloc (Nat.le_refl _) _
      have k0 := (g6.cell (p := ⟨w.heap.size, 2, none⟩) l0').trans p2'
      have k1 := one_box (w := wr) (cs := #[.string xk, .slice ax nx cx]) (T := 115) 0
      have k2 := one_box (w := wr) (cs := #[.string xk, .slice ax nx cx]) (T := 115) 1
      simp only [List.getElem?_toArray, List.getElem?_cons_zero, List.getElem?_cons_succ] at k1 k2
      have i0 : (0 : Int) ≤ (j : Int) := by omega
      have i1 : (j : Int) ≤ (cl : Int) := by have := hcap.1; omega
      by_cases hz : F = 0
      · have HA := hA1 hz
        rw [hz] at H
        clear hA1 hA2 hz
        go_wp2
        go_region_held3 (fun W' => W'.cell? ⟨w.heap.size, 2, none⟩ = some (.slice (some ⟨g, off, none⟩) n cl) ∧ W'.cell? ⟨wr.heap.size, 0, none⟩ = some (.string xk) ∧ W'.cell? ⟨wr.heap.size, 1, none⟩ = some (.slice ax nx cx))
          (first | exact ⟨k0, k1, k2⟩ | exact ⟨(b7.cell (by simp; omega)).trans k0, (b7.cell (by simp)).trans k1, (b7.cell (by simp)).trans k2⟩)
          (first | (go_at_call 135; refine (H _ g6.drew).mono ?_; rintro e w7 ⟨rfl, b7⟩))
        all_goals
          go_wp2
          go_roundw
          case rel => exact ⟨j + 1, by omega, by go_num, hbw.trans ((g6.drew.trans (b7.mono (by simp))).mono hbw.size), HA⟩
          case measure => simp [intOf]; omega
      · have HA := hid_in (hA2 hz)
        have hz' : (F != 0) = true := by rw [bne_iff_ne]; exact hz
        clear hA1 hA2 hz
        go_wp2
        go_region_held3 (fun W' => W'.cell? ⟨w.heap.size, 2, none⟩ = some (.slice (some ⟨g, off, none⟩) n cl) ∧ W'.cell? ⟨wr.heap.size, 0, none⟩ = some (.string xk) ∧ W'.cell? ⟨wr.heap.size, 1, none⟩ = some (.slice ax nx cx))
          (first | exact ⟨k0, k1, k2⟩ | exact ⟨(b7.cell (by simp; omega)).trans k0, (b7.cell (by simp)).trans k1, (b7.cell (by simp)).trans k2⟩)
          (first | (go_at_call 135; refine (H _ g6.drew).mono ?_; rintro e w7 ⟨rfl, b7⟩))
        all_goals
          go_wp2
          go_ret
          exact ⟨ret_bool HA.out, b5.trans ((g6.drew.trans (b7.mono (by simp))).mono b5.size)⟩
    · obtain rfl : j = n := by omega
      have hE := hid_in (show descB (lineLt R) PL = linesB R PL from FineTo.all (by rw [hPN.out]; exact hA))
      have H : ∀ (W : World), Below wr.heap.size wr W → Calls Tryz.prog 136 #[.slice al j cl, .func (.func 147) #[] #[.pointer (some ⟨W.heap.size, 0, none⟩)]] (W.alloc (.cells #[.slice ar m cr] 47)) fun e w' => e = .returned (.bool (linesB R PL)) ∧ Below wr.heap.size wr w' := by
        intro W hW
        have g7 : Below W.heap.size W (W.alloc (.cells #[.slice ar m cr] 47)) := (Below.refl _ _).alloc (Nat.le_refl _) _
        have hW7 := hW.trans (g7.mono hW.size)
        have b6 := b5.trans (hW7.mono b5.size)
        have hsx := sortedLines_any (RL := L) W.heap.size (hls.below b6) (by have := hsm.1; have := hN.out; omega) (fun x hx => (hsm.2 x hx).1) (RulesAt.rin (Mem.below (Mem.below hr hbw) hW7)) (by have := hlike.1; rw [← hp, List.length_map] at this; exact this) (one_box (w := W) 0)
        rw [hp, hP.out, hE.out] at hsx
        exact hsx.mono fun e w' ⟨he, hG⟩ => ⟨he, hW7.trans (hG.1.mono hW7.size)⟩
      have HO := fun W => lineOrderOf_any (v := .slice ar m cr) ⟨_, _, _, rfl⟩ W
      have hdr : Below wr.heap.size wr wr.drew := (Below.refl _ _).drew
      clear hls hst hsm hr hlike hA hN hP hPN hp p0 hE
      go_wp2
      go_region_held3 (fun W' => W'.cell? ⟨w.heap.size, 2, none⟩ = some (.slice al j cl))
        (first | exact p2' | exact (b7.cell l0').trans p2' | go_keep)
        (first | (go_at_call 75; refine (HO _).mono ?_; rintro e w7 ⟨rfl, rfl⟩) | (go_at_call 136; refine (H _ hdr).mono ?_; rintro e w7 ⟨rfl, b7⟩))
      all_goals
        go_wp2
        go_ret
        exact ⟨rfl, b5.trans (b7.mono b5.size)⟩
/-- Blocks up to a place are as they must be, the order aside. -/
def SoundTo (bs : List PBlock) (k : Nat) : Prop := ∀ i b, i < k → bs[i]? = some b → headFault (bs.take i) b.kind b.name = 0 ∧ LinesOk (rulesOf b.kind) b.lines
theorem SoundTo.zero (bs : List PBlock) : SoundTo bs 0 := fun _ _ h => by omega
theorem SoundTo.succ {bs : List PBlock} {k : Nat} {b : PBlock} (h : SoundTo bs k) (hb : bs[k]? = some b) (hz : headFault (bs.take k) b.kind b.name = 0) (hl : linesB (rulesOf b.kind) b.lines = true) : SoundTo bs (k + 1) := by
  intro i c hi hc
  by_cases e : i = k
  · subst e; rw [hb] at hc; cases hc; exact ⟨hz, linesB_iff.1 hl⟩
  · exact h i c (by omega) hc
theorem sound_head {bs : List PBlock} {k : Nat} {b : PBlock} (hb : bs[k]? = some b) (hz : headFault (bs.take k) b.kind b.name ≠ 0) : false = sheetB bs := by
  rw [eq_comm, ← Bool.not_eq_true, sheetB_iff]
  exact fun h => hz ((impl_sheetOk h).1 k b hb).1
theorem sound_lines {bs : List PBlock} {k : Nat} {b : PBlock} (hb : bs[k]? = some b) (hl : linesB (rulesOf b.kind) b.lines = false) : false = sheetB bs := by
  rw [eq_comm, ← Bool.not_eq_true, sheetB_iff]
  intro h
  rw [linesB_iff.2 ((impl_sheetOk h).1 k b hb).2] at hl
  cases hl
open Classical in
theorem SoundTo.all {bs : List PBlock} (h : SoundTo bs bs.length) : descB blockLt bs = sheetB bs := by
  rw [Bool.eq_iff_iff, sheetB_iff]
  unfold descB
  rw [decide_eq_true_iff]
  constructor
  · intro hd
    exact sheetOk_impl (fun i b hb => h i b (List.getElem?_eq_some_iff.1 hb).1 hb) hd
  · exact fun hok => (impl_sheetOk hok).2
theorem val_keep {W W1 : World} {a1 a2 a3 a4 : Addr} {v1 v2 v3 v4 : Value} {B : Nat} {w0 : World} (hS : Below B w0 W ∧ w0.heap.size ≤ W.heap.size ∧ W.cell? a1 = some v1 ∧ W.cell? a2 = some v2 ∧ W.cell? a3 = some v3 ∧ W.cell? a4 = some v4) (hB : B ≤ w0.heap.size) (G : Below W.heap.size W W1) :
    Below B w0 W1 ∧ w0.heap.size ≤ W1.heap.size ∧ W1.cell? a1 = some v1 ∧ W1.cell? a2 = some v2 ∧ W1.cell? a3 = some v3 ∧ W1.cell? a4 = some v4 := by
  obtain ⟨h0, h00, h1, h2, h3, h4⟩ := hS
  have kc : ∀ {a : Addr} {u : Value}, W.cell? a = some u → W1.cell? a = some u := fun hc => (G.cell (World.block_lt_of_cell? W _ hc)).trans hc
  exact ⟨h0.trans (G.mono (by omega)), Nat.le_trans h00 G.size, kc h1, kc h2, kc h3, kc h4⟩
set_option maxHeartbeats 4000000 in
set_option maxRecDepth 100000 in
theorem implValid_any {v : Value} {bs : List BAt} {w : World} (hbs : BlocksIn w v bs) (hsm : BlocksSmall bs) (hst : StdAt w) : Calls Tryz.prog 19 #[.agg #[v]] w fun e w' => e = .returned (.bool (sheetB (bs.map BAt.plain))) ∧ Below w.heap.size w w' := by
  obtain ⟨al, cl, rfl⟩ := hbs.1.form
  have hcap := hbs.1.cap
  have hn20 := hsm.1
  have b0 : Below w.heap.size w (w.alloc (.cells #[.slice al bs.length cl] 25)) := (Below.refl _ _).alloc (Nat.le_refl _) _
  have p0 := one_box (w := w) (cs := #[.slice al bs.length cl]) (T := 25) 0
  simp only [List.getElem?_toArray, List.getElem?_cons_zero] at p0
  generalize hn : bs.length = n at *
  generalize hPL : bs.map BAt.plain = PL
  have hP := hid_in hPL
  have hN := hid_in hn
  have hPN := hid_in (show PL.length = n by rw [← hPL, List.length_map, hn])
  clear hPL hn
  go_enter Tryz.func19, Tryz.ntmps19
  go_wp2
  generalize hW0 : w.alloc (.cells #[.slice al n cl] 25) = w1 at *
  clear hW0
  go_loopw [8] (fun i wr => ∃ j : Nat, j ≤ n ∧ i = .int .i64 (j : Int) ∧ Below w1.heap.size w1 wr ∧ SoundTo PL j) (fun i _ => n - (intOf i).toNat)
  case atStart => exact ⟨0, by omega, rfl, Below.refl _ _, SoundTo.zero _⟩
  case round =>
    obtain ⟨j, hj, rfl, hbw, hA⟩ := hrel
    have b5 := b0.trans (hbw.mono b0.size)
    have l0 := World.block_lt_of_cell? w1 _ p0
    have p0' := (hbw.cell (p := ⟨w.heap.size, 0, none⟩) l0).trans p0
    have l0' := World.block_lt_of_cell? wr _ p0'
    by_cases hlt : j < n
    · obtain ⟨D, x, T, e0, hD⟩ := split1 bs j (by have := hN.out; omega)
      have hbs5 := hbs.below b5
      have hbs6 := hbs5
      rw [e0] at hbs6
      obtain ⟨g, off, rfl, c1, c2, c3⟩ := hbs6.1.block
      have hxm : x ∈ bs := by rw [e0]; simp
      have hxs := hsm.2 x hxm
      obtain ⟨ax, cx, e1⟩ := (hbs5.2 x hxm).1.form
      rw [hD] at c1 c2 c3
      rw [e1] at c3
      have hPx : PL[j]? = some x.plain := by rw [← hP.out, e0, ← hD]; simp
      have hPt : (bs.take j).map BAt.plain = PL.take j := by rw [← hP.out, List.map_take]
      have hA1 := fun h h' => hA.succ hPx h h'
      have hA2 := fun h => sound_head hPx h
      have hA3 := fun h => sound_lines hPx h
      have H1 : ∀ (W : World), Below wr.heap.size wr W → Calls Tryz.prog 66 #[.slice (some ⟨g, off, none⟩) j cl, .string x.kind, .string x.name] W fun e w' => e = .returned (.int .i64 (headFault (PL.take j) x.plain.kind x.plain.name)) ∧ Below W.heap.size W w' := by
        intro W hW
        rw [← hPt]
        exact headFault_any x.kind x.name ((hbs5.below hW).take j (by have := hN.out; omega)) (by rw [List.length_take]; have := hsm.1; omega) hxs.1
      have H2 : ∀ (W : World), Below wr.heap.size wr W → Calls Tryz.prog 67 #[.agg #[.string x.kind, .string x.name, .slice ax x.ls.length cx]] W fun e w' => e = .returned (.bool (linesB (rulesOf x.plain.kind) x.plain.lines)) ∧ Below W.heap.size W w' := by
        intro W hW
        have b6 := b5.trans (hW.mono b5.size)
        exact validLines_any x.kind x.name (e1 ▸ (hbs5.below hW).2 x hxm) hxs.2 (hst.below b6)
      clear hbs hbs5 hbs6 hst hsm hA e0 e1 hPx hPt hN hP hPN hxs
      generalize headFault (PL.take j) x.plain.kind x.plain.name = F at *
      generalize linesB (rulesOf x.plain.kind) x.plain.lines = LB at *
      generalize x.ls.length = nx at *
      generalize x.kind = xk at *
      generalize x.name = xn at *
      have g6 : Below wr.heap.size wr (wr.alloc (.cells #[.string xk, .string xn, .slice ax nx cx] 46)) := (Below.refl _ _).alloc (Nat.le_refl _) _
      have k0 := (g6.cell (p := ⟨w.heap.size, 0, none⟩) l0').trans p0'
      have k1 := one_box (w := wr) (cs := #[.string xk, .string xn, .slice ax nx cx]) (T := 46) 0
      have k2 := one_box (w := wr) (cs := #[.string xk, .string xn, .slice ax nx cx]) (T := 46) 1
      have k3 := one_box (w := wr) (cs := #[.string xk, .string xn, .slice ax nx cx]) (T := 46) 2
      simp only [List.getElem?_toArray, List.getElem?_cons_zero, List.getElem?_cons_succ] at k1 k2 k3
      have i0 : (0 : Int) ≤ (j : Int) := by omega
      have i1 : (j : Int) ≤ (cl : Int) := by have := hcap.1; omega
      have hsz := size_alloc' wr (.cells #[.string xk, .string xn, .slice ax nx cx] 46)
      have m0 : w.heap.size < (wr.alloc (.cells #[.string xk, .string xn, .slice ax nx cx] 46)).drew.heap.size := by rw [World.size_drew, hsz]; exact Nat.lt_succ_of_lt l0'
      have m1 : wr.heap.size < (wr.alloc (.cells #[.string xk, .string xn, .slice ax nx cx] 46)).drew.heap.size := by rw [World.size_drew, hsz]; exact Nat.lt_succ_self _
      have gd := g6.drew
      have hS : Below wr.heap.size wr (wr.alloc (.cells #[.string xk, .string xn, .slice ax nx cx] 46)).drew ∧ wr.heap.size ≤ (wr.alloc (.cells #[.string xk, .string xn, .slice ax nx cx] 46)).drew.heap.size ∧ (wr.alloc (.cells #[.string xk, .string xn, .slice ax nx cx] 46)).drew.cell? ⟨w.heap.size, 0, none⟩ = some (.slice (some ⟨g, off, none⟩) n cl) ∧ (wr.alloc (.cells #[.string xk, .string xn, .slice ax nx cx] 46)).drew.cell? ⟨wr.heap.size, 0, none⟩ = some (.string xk) ∧ (wr.alloc (.cells #[.string xk, .string xn, .slice ax nx cx] 46)).drew.cell? ⟨wr.heap.size, 1, none⟩ = some (.string xn) ∧ (wr.alloc (.cells #[.string xk, .string xn, .slice ax nx cx] 46)).drew.cell? ⟨wr.heap.size, 2, none⟩ = some (.slice ax nx cx) := ⟨gd, gd.size, k0, k1, k2, k3⟩
      clear m0 m1 hsz g6 p0 l0 hcap hD hxm hj
      by_cases hz : F = 0
      · rw [hz] at H1
        clear k0 k1 k2 k3 p0'
        cases LB
        · have HA := hid_in (hA3 rfl)
          clear hA1 hA2 hA3
          go_wp2
          go_region_held3 (fun W' => Below wr.heap.size wr W' ∧ wr.heap.size ≤ W'.heap.size ∧ W'.cell? ⟨w.heap.size, 0, none⟩ = some (.slice (some ⟨g, off, none⟩) n cl) ∧ W'.cell? ⟨wr.heap.size, 0, none⟩ = some (.string xk) ∧ W'.cell? ⟨wr.heap.size, 1, none⟩ = some (.string xn) ∧ W'.cell? ⟨wr.heap.size, 2, none⟩ = some (.slice ax nx cx))
            (first | assumption | exact hS | exact val_keep (by assumption) (Nat.le_refl _) (by assumption))
            (first | (go_at_call 66; refine (H1 _ (And.left (by assumption))).mono ?_; rintro e w7 ⟨rfl, b7⟩) | (go_at_call 67; refine (H2 _ (And.left (by assumption))).mono ?_; rintro e w8 ⟨rfl, b8⟩))
          all_goals
            rename_i hQ
            have G1 := hQ.1
            clear hQ hS b7 b8 H1 H2
            go_wp2
            go_ret
            exact ⟨ret_bool HA.out, b5.trans (G1.mono b5.size)⟩
        · have HA := hA1 hz rfl
          clear hA1 hA2 hA3
          go_wp2
          go_region_held3 (fun W' => Below wr.heap.size wr W' ∧ wr.heap.size ≤ W'.heap.size ∧ W'.cell? ⟨w.heap.size, 0, none⟩ = some (.slice (some ⟨g, off, none⟩) n cl) ∧ W'.cell? ⟨wr.heap.size, 0, none⟩ = some (.string xk) ∧ W'.cell? ⟨wr.heap.size, 1, none⟩ = some (.string xn) ∧ W'.cell? ⟨wr.heap.size, 2, none⟩ = some (.slice ax nx cx))
            (first | assumption | exact hS | exact val_keep (by assumption) (Nat.le_refl _) (by assumption))
            (first | (go_at_call 66; refine (H1 _ (And.left (by assumption))).mono ?_; rintro e w7 ⟨rfl, b7⟩) | (go_at_call 67; refine (H2 _ (And.left (by assumption))).mono ?_; rintro e w8 ⟨rfl, b8⟩))
          all_goals
            rename_i hQ
            have G1 := hQ.1
            clear hQ hS b7 b8 H1 H2
            go_wp2
            go_roundw
            case rel => exact ⟨j + 1, by omega, by go_num, hbw.trans (G1.mono hbw.size), HA⟩
            case measure => simp [intOf]; omega
      · have HA := hid_in (hA2 hz)
        have hz' : (F != 0) = true := by rw [bne_iff_ne]; exact hz
        clear hA1 hA2 hA3 hz H2 hS p0'
        go_wp2
        go_region_with (first
          | (go_at_call 66; refine (H1 _ gd).mono ?_; rintro e w7 ⟨rfl, b7⟩))
        all_goals
          go_wp2
          go_ret
          exact ⟨ret_bool HA.out, b5.trans ((gd.trans (b7.mono gd.size)).mono b5.size)⟩
    · obtain rfl : j = n := by omega
      have hE := hid_in (show descB blockLt PL = sheetB PL from SoundTo.all (by rw [hPN.out]; exact hA))
      have H := sortedBlocks_any (hbs.below b5) (by have := hsm.1; omega)
      rw [hP.out, hE.out] at H
      clear hbs hsm hst hA hN hP hPN hE
      go_wp2_with (go_at_call 68; refine H.mono ?_; rintro e w7 ⟨rfl, G7⟩)
      go_ret
      exact ⟨rfl, b5.trans (G7.1.mono b5.size)⟩
end Go.Proofs.YtpdahhnjhggocaaGreatDoor
namespace Go.Proofs.YtpdahhnjhggocaaGreatDoor
open Go.RowKit
theorem mem_plain {α β : Type} {f : α → β} {xs ys : List α} (h : xs.map f = ys.map f) {x : α} (hx : x ∈ xs) : ∃ y ∈ ys, f y = f x := by
  have : f x ∈ ys.map f := by rw [← h]; exact List.mem_map_of_mem hx
  obtain ⟨y, hy, e⟩ := List.mem_map.1 this
  exact ⟨y, hy, e⟩
theorem len_plain {α β : Type} {f : α → β} {xs ys : List α} (h : xs.map f = ys.map f) : xs.length = ys.length := by
  have := congrArg List.length h; simpa using this
theorem LinesSmall.same {xs ys : List LAt} (h : LinesSmall ys) (he : xs.map LAt.plain = ys.map LAt.plain) : LinesSmall xs := by
  refine ⟨by rw [len_plain he]; exact h.1, fun x hx => ?_⟩
  obtain ⟨y, hy, e⟩ := mem_plain he hx
  have := h.2 y hy
  simp only [LAt.plain, PLine.mk.injEq] at e
  rw [← e.2]; exact this
theorem BlocksSmall.same {xs ys : List BAt} (h : BlocksSmall ys) (he : xs.map BAt.plain = ys.map BAt.plain) : BlocksSmall xs := by
  refine ⟨by rw [len_plain he]; exact h.1, fun x hx => ?_⟩
  obtain ⟨y, hy, e⟩ := mem_plain he hx
  have := h.2 y hy
  simp only [BAt.plain, PBlock.mk.injEq] at e
  exact ⟨by rw [← e.2.1]; exact this.1, this.2.same e.2.2.symm⟩
end Go.Proofs.YtpdahhnjhggocaaGreatDoor
namespace Go.Proofs.YtpdahhnjhggocaaGreatDoor
open Go.RowKit
/-- No two rules of a kind have one key. -/
def KeysApart (R : List Plain) : Prop := (R.map fun p => p.1.toList).Nodup
theorem keysApart (kind : ByteArray) : KeysApart (rulesOf kind) := by
  unfold rulesOf KeysApart
  split
  · unfold teamRules; simp only [ByteArray.toList_eq]; decide
  · split
    · unfold berthRules; simp only [ByteArray.toList_eq]; decide
    · split
      · unfold serviceRules; simp only [ByteArray.toList_eq]; decide
      · simp
theorem place_of {R : List Plain} (h : KeysApart R) {D T : List Plain} {p : Plain} {key : ByteArray} (hR : R = D ++ p :: T) (hp : pickR R key = some p) : placeI R key = (D.length : Int) := by
  obtain ⟨i, hi, hg, hk⟩ := pick_place hp
  rw [hi]
  have h1 : R[D.length]? = some p := by rw [hR]; simp
  have hi' := (List.getElem?_eq_some_iff.1 hg).1
  have hD' := (List.getElem?_eq_some_iff.1 h1).1
  by_cases e : i = D.length
  · rw [e]
  · exfalso
    have hn := List.pairwise_iff_getElem.1 h
    have e1 := (List.getElem?_eq_some_iff.1 hg).2
    have e2 := (List.getElem?_eq_some_iff.1 h1).2
    rcases Nat.lt_or_gt_of_ne e with hlt | hlt
    · have := hn i D.length (by simpa using hi') (by simpa using hD') hlt
      simp only [List.getElem_map, e1, e2] at this
      exact this rfl
    · have := hn D.length i (by simpa using hD') (by simpa using hi') hlt
      simp only [List.getElem_map, e1, e2] at this
      exact this rfl
theorem place_none {R : List Plain} {key : ByteArray} (h : pickR R key = none) : placeI R key = -1 := by
  unfold placeI
  rw [List.findIdx?_eq_none_iff.2]
  unfold pickR at h
  intro p hp
  have := List.find?_eq_none.1 h p hp
  simpa using this
/-- What came back, and nothing old turned (behind a name, so that the walk leaves it whole). -/
def Got (v : Value) (w : World) (e : Ending) (w' : World) : Prop := e = .returned v ∧ Below w.heap.size w w'
/-- The place of a key, as the model finds it. -/
theorem l2Place_any (kind key : ByteArray) (w : World) : Calls Tryz.prog 90 #[.string kind, .string key] w fun e w' => e = .returned (.int .i64 (placeI (rulesOf kind) key)) ∧ Below w.heap.size w w' := by
  refine (l2Rule_any kind key w).mono fun e w' ⟨hb, hp⟩ => ⟨?_, hb⟩
  rcases hp with ⟨h, rfl⟩ | ⟨D, p, T, hR, h, rfl⟩
  · rw [place_none h]
  · rw [place_of (keysApart kind) hR h]
theorem lessAt {xs ys : List (List UInt8)} {k : Nat} (h : AlikeTo xs ys k) (h1 : k < xs.length) (h2 : k < ys.length) (e : (xs[k] == ys[k]) = false) : decide (xs[k] < ys[k]) = decide (xs < ys) := by
  rw [decide_eq_decide]
  unfold AlikeTo at h
  have hx : xs = xs.take k ++ xs[k] :: xs.drop (k + 1) := by rw [← List.drop_eq_getElem_cons h1, List.take_append_drop]
  have hy : ys = ys.take k ++ ys[k] :: ys.drop (k + 1) := by rw [← List.drop_eq_getElem_cons h2, List.take_append_drop]
  have hne : xs[k] ≠ ys[k] := by simpa using e
  have hpre : ∀ (p a b : List (List UInt8)), p ++ a < p ++ b ↔ a < b := by
    intro p a b
    induction p with
    | nil => rfl
    | cons c p ih =>
      rw [List.cons_append, List.cons_append, lt_cons]
      constructor
      · rintro (q | ⟨_, q⟩)
        · exact absurd q (Tot.irr _)
        · exact ih.1 q
      · exact fun q => .inr ⟨rfl, ih.2 q⟩
  generalize hX : xs[k] = X at *
  generalize hY : ys[k] = Y at *
  rw [hx, hy, h, hpre, lt_cons]
  constructor
  · exact fun q => .inl q
  · rintro (q | ⟨q, _⟩)
    · exact q
    · exact absurd q hne
theorem less_end {xs ys : List (List UInt8)} {k : Nat} (h : AlikeTo xs ys k) (hk : k = xs.length ∨ k = ys.length) (hx : k ≤ xs.length) (hy : k ≤ ys.length) : decide (xs.length < ys.length) = decide (xs < ys) := by
  rw [decide_eq_decide]
  unfold AlikeTo at h
  have e1 : xs = xs.take k ++ xs.drop k := (List.take_append_drop _ _).symm
  have e2 : ys = ys.take k ++ ys.drop k := (List.take_append_drop _ _).symm
  have hpre : ∀ (p a b : List (List UInt8)), p ++ a < p ++ b ↔ a < b := by
    intro p a b
    induction p with
    | nil => rfl
    | cons c p ih =>
      rw [List.cons_append, List.cons_append, lt_cons]
      constructor
      · rintro (q | ⟨_, q⟩)
        · exact absurd q (Tot.irr _)
        · exact ih.1 q
      · exact fun q => .inr ⟨rfl, ih.2 q⟩
  have e3 : xs < ys ↔ xs.drop k < ys.drop k := by
    conv => lhs; rw [e1, e2, h]
    exact hpre _ _ _
  rw [e3]
  have lx : (xs.drop k).length = xs.length - k := List.length_drop
  have ly : (ys.drop k).length = ys.length - k := List.length_drop
  cases hdx : xs.drop k with
  | nil =>
    rw [hdx] at lx
    simp at lx
    cases hdy : ys.drop k with
    | nil =>
      rw [hdy] at ly
      simp at ly
      constructor
      · intro q; omega
      · intro q; exact absurd q (List.not_lt_nil _)
    | cons y l =>
      rw [hdy] at ly
      simp at ly
      exact ⟨fun _ => List.nil_lt_cons _ _, fun _ => by omega⟩
  | cons x l =>
    rw [hdx] at lx
    simp at lx
    have hky : ys.drop k = [] := List.drop_eq_nil_of_le (by omega)
    rw [hky]
    constructor
    · intro q; omega
    · intro q; exact absurd q (List.not_lt_nil _)
set_option maxHeartbeats 1000000 in
set_option maxRecDepth 100000 in
theorem l3Less_any {n m ca cb : Nat} {ao bo : Option Addr} {xs ys : List (List UInt8)} {w : World} (h1 : HasRow w (.slice ao n ca) xs.length 1 (strs xs)) (h2 : HasRow w (.slice bo m cb) ys.length 1 (strs ys)) (hn : n ≤ 1048576) (hm : m ≤ 1048576) : Calls Tryz.prog 156 #[.slice ao n ca, .slice bo m cb] w fun e w' => e = .returned (.bool (decide (xs < ys))) ∧ ∃ q, w' = w.drewN q := by
  have en := hid_in (show n = xs.length by obtain ⟨_, _, _, e, _⟩ := h1; cases e; rfl)
  have em := hid_in (show m = ys.length by obtain ⟨_, _, _, e, _⟩ := h2; cases e; rfl)
  go_enter Tryz.func156, Tryz.ntmps156
  go_wp2
  go_loopw [5] (fun i wr => ∃ k q : Nat, k ≤ n ∧ k ≤ m ∧ i = .int .i64 (k : Int) ∧ wr = w.drewN q ∧ AlikeTo xs ys k) (fun i _ => n - (intOf i).toNat)
  case atStart => exact ⟨0, 0, by omega, by omega, rfl, rfl, AlikeTo.zero _ _⟩
  case round =>
    obtain ⟨k, q, hk, hkm, rfl, rfl, hA⟩ := hrel
    by_cases hlt : k < n
    · have lk : k < xs.length := by have := en.out; omega
      by_cases hlt2 : k < m
      · have lk2 : k < ys.length := by have := em.out; omega
        obtain ⟨b, off, rfl, c1⟩ := h1.word k lk
        obtain ⟨b2, off2, rfl, c2⟩ := h2.word k lk2
        have e1 : (ByteArray.mk xs[k].toArray).toList = xs[k] := by rw [ByteArray.toList_eq]
        have e2 : (ByteArray.mk ys[k].toArray).toList = ys[k] := by rw [ByteArray.toList_eq]
        cases he : (xs[k] == ys[k])
        · have HA := hid_in (show Op.bytesLess xs[k] ys[k] = decide (xs < ys) by rw [less_eq]; exact lessAt hA lk lk2 he)
          rw [← e1, ← e2] at he HA
          generalize (⟨xs[k].toArray⟩ : ByteArray) = x at *
          generalize (⟨ys[k].toArray⟩ : ByteArray) = y at *
          clear hA h1 h2 e1 e2
          go_wp2
          go_quiet (fail)
          go_wp2
          go_quiet (fail)
          go_wp2
          go_ret
          exact ⟨ret_bool HA.out, _, by first | rfl | exact World.drewN_drewN _ _ _ | (rw [World.drewN_drewN, World.drewN_drewN])⟩
        · have HA := hA.succ lk lk2 he
          rw [← e1, ← e2] at he
          generalize (⟨xs[k].toArray⟩ : ByteArray) = x at *
          generalize (⟨ys[k].toArray⟩ : ByteArray) = y at *
          clear hA h1 h2 e1 e2
          go_wp2
          go_quiet (fail)
          go_wp2
          go_roundw
          case rel => exact ⟨k + 1, _, by omega, by omega, by go_num, by first | rfl | exact World.drewN_drewN _ _ _, HA⟩
          case measure => simp [intOf]; omega
      · have HA := hid_in (show decide (n < m) = decide (xs < ys) by rw [en.out, em.out]; exact less_end hA (.inr (by have := em.out; omega)) (by omega) (by have := em.out; omega))
        clear hA h1 h2
        go_wp2
        go_ret
        exact ⟨ret_bool HA.out, q, rfl⟩
    · have HA := hid_in (show decide (n < m) = decide (xs < ys) by rw [en.out, em.out]; exact less_end hA (.inl (by have := en.out; omega)) (by have := en.out; omega) (by have := em.out; omega))
      clear hA h1 h2
      go_wp2
      go_ret
      exact ⟨ret_bool HA.out, q, rfl⟩
set_option maxHeartbeats 2000000 in
set_option maxRecDepth 100000 in
theorem l3LineLess_any {va vb : Value} (kind : ByteArray) (a b : PLine) {w : World} (ha : HasRow w va a.ws.length 1 (strs a.ws)) (hb : HasRow w vb b.ws.length 1 (strs b.ws)) (la : a.ws.length ≤ 1048576) (lb : b.ws.length ≤ 1048576) : Calls Tryz.prog 121 #[.string kind, .agg #[.string a.key, va], .agg #[.string b.key, vb]] w fun e w' => e = .returned (.bool (lineLt (rulesOf kind) a b)) ∧ Below w.heap.size w w' := by
  obtain ⟨aa, ca, rfl⟩ := ha.form
  obtain ⟨ab, cb, rfl⟩ := hb.form
  have G := ((Below.refl w.heap.size w).alloc (Nat.le_refl _) (.cells #[.string a.key, .slice aa a.ws.length ca] 115)).alloc (by simp) (.cells #[.string b.key, .slice ab b.ws.length cb] 115)
  have hc := two_boxes (w := w) (cs := #[.string a.key, .slice aa a.ws.length ca]) (ds := #[.string b.key, .slice ab b.ws.length cb]) (T := 115) (U := 115)
  have c0 := hc.1 0
  have c1 := hc.1 1
  have d0 := hc.2 0
  have d1 := hc.2 1
  simp only [List.getElem?_toArray, List.getElem?_cons_zero, List.getElem?_cons_succ] at c0 c1 d0 d1
  clear hc
  have ha1 := ha.below G
  have hb1 := hb.below G
  have HP : ∀ key W, Calls Tryz.prog 90 #[.string kind, .string key] W fun e w' => Got (.int .i64 (placeI (rulesOf kind) key)) W e w' := fun key W => l2Place_any kind key W
  have hL := hid_in (show lineLt (rulesOf kind) a b = (decide (placeI (rulesOf kind) a.key < placeI (rulesOf kind) b.key) || (decide (placeI (rulesOf kind) a.key = placeI (rulesOf kind) b.key) && decide (a.ws < b.ws))) from rfl)
  generalize lineLt (rulesOf kind) a b = LT at *
  generalize placeI (rulesOf kind) = pl at *
  generalize hna : a.ws.length = na at *
  generalize hnb : b.ws.length = nb at *
  have hNA := hid_in hna
  have hNB := hid_in hnb
  clear ha hb hna hnb
  go_enter Tryz.func121, Tryz.ntmps121
  go_wp2_with fail
  generalize (w.alloc (.cells #[.string a.key, .slice aa na ca] 115)).alloc (.cells #[.string b.key, .slice ab nb cb] 115) = W at *
  have l1 := World.block_lt_of_cell? W _ c1
  have l2 := World.block_lt_of_cell? W _ d1
  go_wp2_with (go_at_call 90; refine (HP a.key _).mono ?_)
  rintro e w1 ⟨rfl, b1⟩
  have d0' := (b1.cell (p := ⟨w.heap.size + 1, 0, none⟩) l2).trans d0
  go_wp2_with (go_at_call 90; refine (HP b.key _).mono ?_)
  rintro e w2 ⟨rfl, b2⟩
  have b12 := b1.trans (b2.mono b1.size)
  have c1' := (b12.cell (p := ⟨w.heap.size, 1, none⟩) l1).trans c1
  have d1' := (b12.cell (p := ⟨w.heap.size + 1, 1, none⟩) l2).trans d1
  have G2 := G.trans (b12.mono G.size)
  have HL := l3Less_any (w := w2) (show HasRow _ (.slice aa na ca) a.ws.length 1 (strs a.ws) by rw [hNA.out]; exact ha1.below b12) (show HasRow _ (.slice ab nb cb) b.ws.length 1 (strs b.ws) by rw [hNB.out]; exact hb1.below b12) la lb
  clear HP ha1 hb1 b1 b2 b12 c0 c1 d0 d1 d0'
  generalize pl a.key = pa at *
  generalize pl b.key = pb at *
  by_cases h1 : pa < pb
  · have HA := hid_in (show true = LT by rw [hL.out]; simp [h1])
    clear hL HL
    go_wp2
    go_ret
    exact ⟨ret_bool HA.out, G2⟩
  · by_cases h2 : pa = pb
    · have HA := hid_in (show decide (a.ws < b.ws) = LT by rw [hL.out]; simp [h2])
      subst h2
      clear hL
      generalize decide (a.ws < b.ws) = dl at *
      go_wp2_with (go_at_call 156; refine HL.mono ?_; rintro e w3 ⟨rfl, q, rfl⟩)
      go_ret
      exact ⟨ret_bool HA.out, below_drewN G2 q⟩
    · have HA := hid_in (show decide (pa < pb) = LT by rw [hL.out]; simp [h1, h2])
      have h3 : (pa == pb) = false := by rw [beq_eq_false_iff_ne]; exact h2
      clear hL HL
      go_wp2
      go_ret
      exact ⟨ret_bool HA.out, G2⟩
set_option maxHeartbeats 2000000 in
set_option maxRecDepth 100000 in
theorem l3Ahead_any (a b : PBlock) (la lb ca cb : Nat) (aa ab : Option Addr) (w : World) : Calls Tryz.prog 59 #[.agg #[.string a.kind, .string a.name, .slice aa la ca], .agg #[.string b.kind, .string b.name, .slice ab lb cb]] w fun e w' => e = .returned (.bool (blockLt a b)) ∧ Below w.heap.size w w' := by
  have G := ((Below.refl w.heap.size w).alloc (Nat.le_refl _) (.cells #[.string a.kind, .string a.name, .slice aa la ca] 46)).alloc (by simp) (.cells #[.string b.kind, .string b.name, .slice ab lb cb] 46)
  have hc := two_boxes (w := w) (cs := #[.string a.kind, .string a.name, .slice aa la ca]) (ds := #[.string b.kind, .string b.name, .slice ab lb cb]) (T := 46) (U := 46)
  have c0 := hc.1 0
  have c1 := hc.1 1
  have d0 := hc.2 0
  have d1 := hc.2 1
  simp only [List.getElem?_toArray, List.getElem?_cons_zero, List.getElem?_cons_succ] at c0 c1 d0 d1
  clear hc
  have hL := hid_in (show blockLt a b = (decide (a.kind.toList < b.kind.toList) || (decide (a.kind.toList = b.kind.toList) && decide (a.name.toList < b.name.toList))) from rfl)
  generalize blockLt a b = LT at *
  generalize a.kind = ak at *
  generalize a.name = an at *
  generalize b.kind = bk at *
  generalize b.name = bn at *
  have e1 := less_eq ak.toList bk.toList
  by_cases h1 : ak.toList < bk.toList
  · have HA := hid_in (show true = LT by rw [hL.out]; simp [h1])
    rw [decide_eq_true h1] at e1
    clear hL h1
    go_enter Tryz.func59, Tryz.ntmps59
    go_wp2
    go_ret
    exact ⟨ret_bool HA.out, G⟩
  · rw [decide_eq_false h1] at e1
    by_cases h2 : ak.toList = bk.toList
    · have e2 : (ak.toList == bk.toList) = true := by rw [beq_iff_eq]; exact h2
      have HA := hid_in (show Op.bytesLess an.toList bn.toList = LT by rw [less_eq, hL.out, decide_eq_false h1, decide_eq_true h2]; simp)
      clear hL h1 h2
      go_enter Tryz.func59, Tryz.ntmps59
      go_wp2
      go_ret
      exact ⟨ret_bool HA.out, G⟩
    · have e2 : (ak.toList == bk.toList) = false := by rw [beq_eq_false_iff_ne]; exact h2
      have HA := hid_in (show false = LT by rw [hL.out]; simp [h1, h2])
      clear hL h1 h2
      go_enter Tryz.func59, Tryz.ntmps59
      go_wp2
      go_ret
      exact ⟨ret_bool HA.out, G⟩
end Go.Proofs.YtpdahhnjhggocaaGreatDoor
