import Derived.Test.YtpdahhnjhggocaaGreatDoorBun40
import Derived.Lib.OwnKind
namespace Go.Proofs.YtpdahhnjhggocaaGreatDoor
open Go.RowKit
def Own (B : Nat) (w : World) (v : Value) (l : List UInt8) : Prop := w.ownsRow B 5 1 v l.length (Lib.byteCells l)
theorem Own.app {B : Nat} {w w' : World} {v v' : Value} {l : List UInt8} {s : ByteArray} {N : Nat} (h : Own B w v l) (hB : B ≤ w.heap.size) (ho : w'.ownsRow B 5 1 v' N (Lib.byteCells l ++ Lib.strCells s)) (hg : w.grownBy w' v.ownBlock) : Own B w' v' (l ++ s.data.toList) ∧ Below B w w' ∧ Lib.OthersKept 5 none w w' := by
  obtain rfl : N = l.length + s.size := by
    have := ho.1
    rw [List.length_append, Lib.byteCells_length, Lib.strCells_length] at this
    omega
  refine ⟨?_, ?_, ?_⟩
  · unfold Own
    rw [byteCells_app, ← strCells_bytes, List.length_append, show s.data.toList.length = s.size by simp]
    exact ho
  · exact (Below.refl B w).grown hg hB (fun k hk => (h.lt k hk).1)
  · exact (Lib.OthersKept.refl 5 none w).grown hg (Lib.ownsRow_kind h)
def cntTo (bs : List PBlock) (j : Nat) : Nat := ((bs.take j).map fun b => b.lines.length + 2).sum
theorem cntTo_succ (bs : List PBlock) (j : Nat) (b : PBlock) (hj : bs[j]? = some b) : cntTo bs (j + 1) = cntTo bs j + b.lines.length + 2 := by
  unfold cntTo
  rw [List.take_add_one, hj]
  simp; omega
theorem cntTo_le {bs : List PBlock} (hl : ∀ b ∈ bs, b.lines.length ≤ 1048576) : ∀ j, cntTo bs j ≤ j * 1048578
  | 0 => by simp [cntTo]
  | j + 1 => by
    have h := cntTo_le hl j
    cases hb : bs[j]? with
    | none =>
      have : bs.length ≤ j := by simpa using hb
      have e : cntTo bs (j + 1) = cntTo bs j := by unfold cntTo; rw [List.take_of_length_le (by omega), List.take_of_length_le (by omega)]
      omega
    | some b =>
      have := hl b (List.mem_of_getElem? hb)
      rw [cntTo_succ bs j b hb]; omega
theorem cntTo_lines {bs : List PBlock} (h : SheetOk bs) : cntTo bs bs.length = (textLines (sheetL bs)).length := by
  rw [textLines_sheet bs (fun b hb => ⟨(h.2.1 b hb).1, (h.2.1 b hb).2.1, (h.2.1 b hb).2.2.1⟩), linesN_sheet]
  unfold cntTo
  rw [List.take_length]
end Go.Proofs.YtpdahhnjhggocaaGreatDoor
namespace Go.Proofs.YtpdahhnjhggocaaGreatDoor
open Go.RowKit
theorem ba_size (t : ByteArray) : t.size = t.data.toList.length := by simp
set_option maxHeartbeats 4000000 in
set_option maxRecDepth 100000 in
theorem specPrint_any {v : Value} {bs : List BAt} {w : World} (hbs : BlocksIn w v bs) (hsm : BlocksSmall bs) : Calls Tryz.prog 25 #[.agg #[v]] w fun e w' => e = .returned (.string ⟨(printL (bs.map BAt.plain)).toArray⟩) ∧ Below w.heap.size w w' := by
  obtain ⟨al, cl, rfl⟩ := hbs.1.form
  obtain ⟨it, hi, hz0, hz1, hz2⟩ := info_parts bldInfo5
  have hn20 := hsm.1
  have b0 : Below w.heap.size w (w.alloc (.cells #[.slice al bs.length cl] 25)) := (Below.refl _ _).alloc (Nat.le_refl _) _
  have p0 := one_box (w := w) (cs := #[.slice al bs.length cl]) (T := 25) 0
  simp only [List.getElem?_toArray, List.getElem?_cons_zero] at p0
  have HV := specValid_any (hbs.below b0) hsm
  have hX := hid_in (hbs.below b0)
  have hS := hid_in hsm
  clear hbs
  generalize hn : bs.length = n at *
  generalize hPL : bs.map BAt.plain = PL at *
  have hP := hid_in hPL
  have hN := hid_in hn
  have hPN := hid_in (show PL.length = n by rw [← hPL, List.length_map, hn])
  have hLs := hid_in (show ∀ b ∈ PL, b.lines.length ≤ 1048576 by
    intro b hb
    rw [← hPL] at hb
    obtain ⟨x, hx, rfl⟩ := List.mem_map.1 hb
    have := (hsm.2 x hx).2.1
    simpa [BAt.plain] using this)
  clear hPL hn hsm
  cases hok : sheetB PL with
  | false =>
    rw [show printL PL = [] by unfold printL; rw [if_pos (.inl hok)]]
    rw [hok] at HV
    go_enter Tryz.func25, Tryz.ntmps25
    go_wp2_with (go_at_call 14; refine HV.mono ?_)
    first | rintro e w2 rfl b2 | rintro e w2 ⟨rfl, b2⟩
    go_wp2
    go_ret
    exact ⟨rfl, b0.trans (b2.mono b0.size)⟩
  | true =>
    rw [hok] at HV
    have hOK := sheetB_iff.1 hok
    have hle := hid_in (sheetL_le hOK hLs.out)
    have h60 : n ≤ 60 := by rw [← hPN.out]; exact hOK.1
    have hcl := hid_in (cntTo_lines hOK)
    have hcb := hid_in (cntTo_le hLs.out)
    have hpr := hid_in (show ∀ b : Bool, b = decide (tooLongL (sheetL PL)) → printL PL = if b then [] else sheetL PL by
      rintro b rfl
      unfold printL
      by_cases h : tooLongL (sheetL PL)
      · rw [if_pos (.inr h), if_pos (decide_eq_true h)]
      · rw [if_neg (by rintro (e | e); rw [hok] at e; cases e; exact h e), if_neg (by simpa using h)])
    clear hOK hok
    go_enter Tryz.func25, Tryz.ntmps25
    go_wp2_with (go_at_call 14; refine HV.mono ?_)
    first | rintro e w2 rfl b2 | rintro e w2 ⟨rfl, b2⟩
    clear HV
    generalize hW0 : w.alloc (.cells #[.slice al n cl] 25) = w1 at *
    clear hW0
    have hX2 := hid_in (hX.out.below b2)
    have p2 := (b2.cell (p := ⟨w.heap.size, 0, none⟩) (World.block_lt_of_cell? w1 _ p0)).trans p0
    have bw2 := b0.trans (b2.mono b0.size)
    clear hX p0 b2 b0
    have O0 : Own w2.heap.size (w2.alloc (.cells #[] 5)) (.slice (some ⟨w2.heap.size, 0, none⟩) 0 0) [] := World.ownsRow_lit w2 #[] 0 (Nat.le_refl _) (by decide) rfl
    have b3 : Below w2.heap.size w2 (w2.alloc (.cells #[] 5)) := (Below.refl _ _).alloc (Nat.le_refl _) _
    go_wp2
    go_loopw [3, 4, 5] (fun s c i wr => ∃ j : Nat, j ≤ n ∧ i = .int .i64 (j : Int) ∧ c = .int .i64 (cntTo PL j : Int) ∧ Own w2.heap.size wr s (sheetL (PL.take j)) ∧ Below w2.heap.size w2 wr) (fun _ _ i _ => n - (intOf i).toNat)
    case atStart => exact ⟨0, by omega, rfl, by simp [cntTo], by simpa [sheetL] using O0, b3⟩
    case round =>
      obtain ⟨j, hj, rfl, rfl, Oj, bj⟩ := hrel
      have p3 := (bj.cell (p := ⟨w.heap.size, 0, none⟩) (World.block_lt_of_cell? w2 _ p2)).trans p2
      by_cases hlt : j < n
      · obtain ⟨D, y, T, e0, hD⟩ := split1 bs j (by have := hN.out; omega)
        have hX6 := hX2.out
        rw [e0] at hX6
        obtain ⟨g, off, rfl, c3, c4, c5⟩ := hX6.1.block
        have hym : y ∈ bs := by rw [e0]; simp
        obtain ⟨ay, cy, e2⟩ := (hX2.out.2 y hym).1.form
        rw [hD] at c3 c4 c5
        rw [e2] at c5
        have c3' := (bj.cell (World.block_lt_of_cell? w2 _ c3)).trans c3
        have c4' := (bj.cell (World.block_lt_of_cell? w2 _ c4)).trans c4
        have c5' := (bj.cell (World.block_lt_of_cell? w2 _ c5)).trans c5
        have hPx : PL[j]? = some y.plain := by rw [← hP.out, e0, ← hD]; simp
        have hSj := hid_in (sheetTo_succ PL j y.plain hPx)
        have hCj := hid_in (cntTo_succ PL j y.plain hPx)
        have hlj := Nat.le_trans (sheetTo_le PL (j + 1)) hle.out
        rw [hSj.out, List.length_append] at hlj
        have hcj := hcb.out (j + 1)
        rw [hCj.out] at hcj
        have hyl := (hS.out.2 y hym).2
        have hYL := hid_in (show LinesIn w2 (.slice ay y.ls.length cy) y.ls from e2 ▸ hX2.out.2 y hym)
        have hA := hid_in (blockTo_all y.plain)
        have hLe := hid_in (blockTo_le y.plain)
        have hZ := hid_in (blockTo_zero y.plain)
        have hYP := hid_in (show y.plain.lines = y.ls.map LAt.plain from rfl)
        have hH := hid_in (show headL y.plain = y.kind.data.toList ++ 32 :: y.name.data.toList from rfl)
        have hml : y.plain.lines.length = y.ls.length := by rw [hYP.out, List.length_map]
        rw [hml] at hcj
        have hml' := hid_in hml
        have hym' := hid_in hyl
        have i1 : (j : Int) < (n : Int) := by omega
        have i0 : (0 : Int) ≤ (j : Int) := by omega
        have hks : y.kind.size + 1 + y.name.size + 1 ≤ 140737488355328 := by
          have h1 := hLe.out 0
          rw [hZ.out, hH.out] at h1
          simp at h1
          omega
        have hm20 := hyl.1
        have hPy := hid_in (show ∀ (k : Nat) (a : LAt), y.ls[k]? = some a → y.plain.lines[k]? = some a.plain by intro k a ha; rw [hYP.out, List.getElem?_map, ha]; rfl)
        clear c3 c4 c5 hX6 e2 hml hyl hD e0 hPx
        generalize hl1 : sheetL (PL.take (j + 1)) = l1 at *
        generalize sheetL (PL.take j) = l0 at *
        generalize hc1 : cntTo PL (j + 1) = cn1 at *
        generalize cntTo PL j = cn at *
        generalize hm : y.ls.length = m at *
        generalize y.plain = py at *
        generalize y.kind = yk at *
        generalize y.name = yn at *
        have hMM := hid_in hm
        clear hm
        have f1 : ¬ 9223372036854775807 < yk.size + 1 := by omega
        have f2 : ¬ 9223372036854775807 < yk.size + 1 + yn.size := by omega
        have f3 : ¬ 9223372036854775807 < yk.size + 1 + yn.size + 1 := by omega
        have hcb' : (j + 1) * 1048578 ≤ 60 * 1048578 := Nat.mul_le_mul_right _ (by omega)
        have w1' : IntKind.i64.wrap ((cn : Int) + (m : Int)) = (cn : Int) + (m : Int) := by rw [IntKind.wrap_i64]; omega
        have w2' : IntKind.i64.wrap ((cn : Int) + (m : Int) + 2) = (cn : Int) + (m : Int) + 2 := by rw [IntKind.wrap_i64]; omega
        have hhd : (yk ++ ⟨#[32]⟩ ++ yn ++ ⟨#[10]⟩ : ByteArray).data.toList = headL py ++ [10] := by rw [hH.out]; simp
        have hhs : (yk ++ ⟨#[32]⟩ ++ yn ++ ⟨#[10]⟩ : ByteArray).size = (headL py ++ [10]).length := by rw [← hhd]; exact ba_size _
        replace hhs := hid_in hhs
        replace hhd := hid_in hhd
        have hbq : w2.heap.size ≤ wr.heap.size := bj.size
        have hLz := hLe.out 0
        rw [hZ.out] at hLz
        have Oa : Own w2.heap.size (wr.alloc (.cells #[.string yk, .string yn, .slice ay m cy] 46)) u3 l0 := Oj.alloc _
        have hbl : (wr.alloc (.cells #[.string yk, .string yn, .slice ay m cy] 46)).heap[wr.heap.size]? = some (.cells #[.string yk, .string yn, .slice ay m cy] 46) := by unfold World.alloc; simp
        have hno : ∀ c fz, (Obj.cells #[.string yk, .string yn, .slice ay m cy] 46) ≠ .cells c 5 fz := by intro c fz e; cases e
        have ba : Below w2.heap.size w2 (wr.alloc (.cells #[.string yk, .string yn, .slice ay m cy] 46)) := bj.alloc bj.size _
        have hlen0 : l0.length + (headL py ++ [10]).length ≤ 140737488355328 := by omega
        clear hLz hks Oj
        go_wp2_with (at_builtin; refine Lib.wpList_append_own_string _ rfl _ _ 22 9 rfl w2.heap.size 5 it Tryz.underlying22 Tryz.underlying9 hi hz0 hz1 hz2 _ _ _ rfl Oa _ rfl ?c3 ?c4 ?c5 ?_)
        case c3 => rw [hhs.out]; unfold maxLen; omega
        case c4 => rw [hhs.out]; exact hlen0
        case c5 => exact ba.size
        intro v4 w4 ho4 hg4 _
        obtain ⟨O4, b4, k4⟩ := Oa.app ba.size ho4 hg4
        rw [hhd.out] at O4
        have hq4 := hid_in (k4 _ _ hbl (by simp) hno)
        have b4' := hid_in (ba.trans b4)
        replace O4 := hid_in O4
        clear ho4 hg4 k4 b4 Oa hbl hhd hhs ba f1 f2 f3 hlen0 c3' c4' c5'
        generalize (yk ++ ⟨#[32]⟩ ++ yn ++ ⟨#[10]⟩ : ByteArray) = hd at *
        have hbq' := hid_in hbq
        clear hbq p3 bj
        generalize wr.heap.size = q at *
        clear wr
        go_wp2
        go_loopw [3, 7] (fun s i wx => ∃ k : Nat, k ≤ m ∧ i = .int .i64 (k : Int) ∧ Own w2.heap.size wx s (l0 ++ blockTo py k) ∧ Below w2.heap.size w2 wx ∧ wx.heap[q]? = some (.cells #[.string yk, .string yn, .slice ay m cy] 46)) (fun _ i _ => m - (intOf i).toNat)
        case atStart => exact ⟨0, by omega, rfl, by rw [hZ.out]; exact O4.out, b4'.out, hq4.out⟩
        case round =>
          obtain ⟨k, hk, rfl, Ok, bk, hqk⟩ := hrel
          have d5 : wr.cell? ⟨q, 2, none⟩ = some (.slice ay m cy) := by rw [Lib.cell_of_heap hqk]; rfl
          by_cases hkm : k < m
          · obtain ⟨D', z, T', e0', hD'⟩ := split1 y.ls k (by have := hMM.out; omega)
            have hY6 := hYL.out
            rw [e0'] at hY6
            obtain ⟨g', off', rfl, q3, q4⟩ := hY6.1.line
            have hzm : z ∈ y.ls := by rw [e0']; simp
            have hzs := hym'.out.2 z hzm
            obtain ⟨az, cz, e2'⟩ := (hYL.out.2 z hzm).form
            rw [hD'] at q3 q4
            rw [e2'] at q4
            have q3' := (bk.cell (World.block_lt_of_cell? w2 _ q3)).trans q3
            have q4' := (bk.cell (World.block_lt_of_cell? w2 _ q4)).trans q4
            have hSk := hid_in (blockTo_succ py k z.plain (hPy.out k z (by rw [e0', ← hD']; simp)))
            have hlk := hLe.out (k + 1)
            rw [hSk.out] at hlk
            simp only [List.length_append, List.length_cons, List.length_nil] at hlk
            have HLn := l4Line_any ((hYL.out.2 z hzm).below bk) (by omega) hzs.1 hzs.2
            rw [e2'] at HLn
            obtain ⟨u, hu⟩ : ∃ u : ByteArray, u = ⟨(lineL z.plain).toArray⟩ := ⟨_, rfl⟩
            have hu' : u.data.toList = lineL z.plain := by rw [hu]
            simp only [← hu] at HLn
            have hus := ba_size u
            rw [hu'] at hus
            have hBk := bk.size
            have g1 : ¬ 9223372036854775807 < 2 + u.size := by omega
            have g2 : ¬ 9223372036854775807 < 2 + u.size + 1 := by omega
            have j1 : (k : Int) < (m : Int) := by omega
            have j0 : (0 : Int) ≤ (k : Int) := by omega
            have hhd : (⟨#[32, 32]⟩ ++ u ++ ⟨#[10]⟩ : ByteArray).data.toList = [32, 32] ++ lineL z.plain ++ [10] := by rw [← hu']; simp
            have hhs := hid_in (show (⟨#[32, 32]⟩ ++ u ++ ⟨#[10]⟩ : ByteArray).size = (lineL z.plain).length + 3 by rw [ba_size, hhd]; simp)
            replace hhd := hid_in hhd
            have hlen1 : (l0 ++ blockTo py k).length + ((lineL z.plain).length + 3) ≤ 140737488355328 := by rw [List.length_append]; omega
            replace hlen1 := hid_in hlen1
            clear hu hY6 q3 q4 e2' hlk
            generalize z.ws.length = nz at *
            generalize z.key = zk at *
            go_wp2_with (go_at_call 88; refine HLn.mono ?_)
            first | rintro e w5 rfl b5 | rintro e w5 ⟨rfl, b5⟩
            have O5 : Own w2.heap.size w5 u3 (l0 ++ blockTo py k) := own_below Ok b5
            have hq5 := others_below (e := 5) (b := none) b5 _ _ hqk (by simp) hno
            have b5' := hid_in (bk.trans (b5.mono bk.size))
            clear HLn Ok hqk d5 q3' q4' bk b5
            go_wp2_with (at_builtin; refine Lib.wpList_append_own_string _ rfl _ _ 22 9 rfl w2.heap.size 5 it Tryz.underlying22 Tryz.underlying9 hi hz0 hz1 hz2 _ _ _ rfl O5 _ rfl ?d3 ?d4 ?d5 ?_)
            case d3 => rw [hhs.out]; have := hlen1.out; unfold maxLen; omega
            case d4 => rw [hhs.out]; exact hlen1.out
            case d5 => exact b5'.out.size
            intro v6 w6 ho6 hg6 _
            obtain ⟨O6, b6, k6⟩ := O5.app b5'.out.size ho6 hg6
            rw [hhd.out] at O6
            have hq6 := hid_in (k6 _ _ hq5 (by simp) hno)
            have b6' := hid_in (b5'.out.trans b6)
            replace O6 := hid_in O6
            clear ho6 hg6 k6 b6 O5 hq5 b5' g1 g2
            go_wp2
            go_roundw
            case rel => exact ⟨k + 1, by omega, by go_num, by rw [hSk.out]; simpa using O6.out, b6'.out, hq6.out⟩
            case measure => simp [intOf]; omega
          · obtain rfl : k = m := by omega
            have hlk := hLe.out k
            have hlen1 := hid_in (show (l0 ++ blockTo py k).length + 4 ≤ 140737488355328 by rw [List.length_append]; omega)
            have hBk := bk.size
            go_wp2_with (at_builtin; refine Lib.wpList_append_own_string _ rfl _ _ 22 9 rfl w2.heap.size 5 it Tryz.underlying22 Tryz.underlying9 hi hz0 hz1 hz2 _ _ _ rfl Ok _ rfl ?d3 ?d4 ?d5 ?_)
            case d3 => show _ + 4 ≤ _; have := hlen1.out; unfold maxLen; omega
            case d4 => exact hlen1.out
            case d5 => exact bk.size
            intro v6 w6 ho6 hg6 _
            obtain ⟨O6, b6, k6⟩ := Ok.app (s := ⟨#[101, 110, 100, 10]⟩) bk.size ho6 hg6
            have hq6 := k6 _ _ hqk (by simp) hno
            have d6 : w6.cell? ⟨q, 2, none⟩ = some (.slice ay k cy) := by rw [Lib.cell_of_heap hq6]; rfl
            have b6' := hid_in (bk.trans b6)
            replace O6 := hid_in O6
            clear ho6 hg6 k6 b6 Ok hqk d5 hq6
            go_wp2
            go_roundw
            case rel => exact ⟨j + 1, by omega, by go_num, by rw [hc1, hCj.out, hml'.out]; push_cast; rfl, by rw [hl1, hSj.out, ← hA.out, hml'.out, ← List.append_assoc]; exact O6.out, b6'.out⟩
            case measure => simp [intOf]; omega
      · obtain rfl : j = n := by omega
        rw [show PL.take j = PL by rw [List.take_of_length_le (by rw [hPN.out]; exact Nat.le_refl _)]] at Oj
        have hcn : cntTo PL j = (textLines (sheetL PL)).length := by rw [← hcl.out, hPN.out]
        have hcj := hcb.out j
        have hcb' : j * 1048578 ≤ 60 * 1048578 := Nat.mul_le_mul_right _ h60
        have hpl := hid_in (show ∀ b : Bool, (b = true ↔ 20000 < (sheetL PL).length ∨ 400 < cntTo PL j) → printL PL = if b then [] else sheetL PL by
          intro b hb
          refine hpr.out b ?_
          rw [Bool.eq_iff_iff, hb, decide_eq_true_iff, hcn]
          rfl)
        have hll := hle.out
        obtain ⟨ao, ca, rfl⟩ := (own_has Oj).form
        have hcv := conv_own wr _ _ _ _ Oj
        have bwj := hid_in (bw2.trans (bj.mono bw2.size))
        clear hcn hpr hle hcl hcb Oj hX2 p2 O0 b3
        generalize cntTo PL j = cn at *
        generalize sheetL PL = l at *
        generalize hll' : l.length = ll at *
        by_cases h1 : (20000 : Int) < (ll : Int)
        · have hR := hid_in (hpl.out true (by simp; omega))
          go_wp2
          go_ret
          exact ⟨by rw [hR.out]; rfl, bwj.out⟩
        · have h1' : decide ((20000 : Int) < (ll : Int)) = false := decide_eq_false h1
          by_cases h2 : (400 : Int) < (cn : Int)
          · have hR := hid_in (hpl.out true (by simp; omega))
            go_wp2
            go_ret
            exact ⟨by rw [hR.out]; rfl, bwj.out⟩
          · have h2' : decide ((400 : Int) < (cn : Int)) = false := decide_eq_false h2
            have hR := hid_in (hpl.out false (by simp; omega))
            go_wp2
            go_ret
            exact ⟨by rw [hR.out]; rfl, bwj.out⟩
end Go.Proofs.YtpdahhnjhggocaaGreatDoor
