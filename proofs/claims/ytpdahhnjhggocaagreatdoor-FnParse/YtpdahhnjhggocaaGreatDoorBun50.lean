import Derived.Test.YtpdahhnjhggocaaGreatDoorBun49
import Derived.Test.YtpdahhnjhggocaaGreatDoorBun44
import Derived.Test.YtpdahhnjhggocaaGreatDoorBun43
import Derived.Test.YtpdahhnjhggocaaGreatDoorBun41
import Derived.Test.YtpdahhnjhggocaaGreatDoorBun30
import Derived.Test.YtpdahhnjhggocaaGreatDoorBun22
namespace Go.Proofs.YtpdahhnjhggocaaGreatDoor
open Go.RowKit
theorem nil_in (w : World) : BlocksIn w (.slice none 0 0) [] := ⟨own_has (World.ownsRow_nil _ 0 46 3), fun b hb => by cases hb⟩
def AnyP (w : World) (e : Ending) (w' : World) : Prop := ∃ (a : Option Addr) (n cap : Nat) (m c : Int), e = .returned (.tuple #[.agg #[.slice a n cap], .agg #[.int .i64 m, .int .i64 c]]) ∧ Below w.heap.size w w'
theorem implParse_some (s : ByteArray) {w : World} (hs : s.size ≤ 4000000) (hst : StdAt w) (het : ErrT w) : Calls Tryz.prog 21 #[.string s] w fun e w' => AnyP w e w' := by
  cases hP : parseT s.data.toList with
  | good bs =>
    refine (implParse_good s hs hst hP).mono ?_
    rintro e w' ⟨a, n, c, gs, rfl, _, _, _, _, b⟩
    exact ⟨a, n, c, 0, 0, rfl, b⟩
  | bad m c =>
    refine (implParse_bad s hs hst het hP).mono ?_
    rintro e w' ⟨rfl, b⟩
    exact ⟨none, 0, 0, _, _, rfl, b⟩
theorem specParse_bad (s : ByteArray) {w : World} {m : Nat} {c : Int} (hs : s.size ≤ 4000000) (hP : parseT s.data.toList = .bad m c) : Calls Tryz.prog 23 #[.string s] w fun e w' => BadPost m c w e w' := by
  refine (specParse_any s w hs).mono ?_
  rintro e w' ⟨b, h⟩
  rw [hP] at h
  exact ⟨h, b⟩
def SpecGood (bs : List PBlock) (w : World) (e : Ending) (w' : World) : Prop := ∃ a n c bs', e = .returned (.tuple #[.agg #[.slice a n c], .agg #[.int .i64 0, .int .i64 0]]) ∧ (bs'.map BAt.plain = normBs bs ∧ BlocksIn w' (.slice a n c) bs') ∧ Below w.heap.size w w'
theorem specParse_good (s : ByteArray) {w : World} {bs : List PBlock} (hs : s.size ≤ 4000000) (hP : parseT s.data.toList = .good bs) : Calls Tryz.prog 23 #[.string s] w fun e w' => SpecGood bs w e w' := by
  refine (specParse_any s w hs).mono ?_
  rintro e w' ⟨b, h⟩
  rw [hP] at h
  obtain ⟨v', bs', rfl, hp, ho⟩ := h
  obtain ⟨a, c, rfl, _⟩ := own_form ho.row
  exact ⟨a, _, c, bs', rfl, ⟨hp, ho.bin⟩, b⟩
theorem boxesFp (w : World) (x : Value) (m c : Int) : Below w.heap.size w ((w.alloc (.cells #[x] 25)).alloc (.cells #[.int .i64 m, .int .i64 c] 38)) ∧ ((w.alloc (.cells #[x] 25)).alloc (.cells #[.int .i64 m, .int .i64 c] 38)).cell? ⟨w.heap.size, 0, none⟩ = some x ∧ ((w.alloc (.cells #[x] 25)).alloc (.cells #[.int .i64 m, .int .i64 c] 38)).cell? ⟨w.heap.size + 1, 0, none⟩ = some (.int .i64 m) ∧ ((w.alloc (.cells #[x] 25)).alloc (.cells #[.int .i64 m, .int .i64 c] 38)).cell? ⟨w.heap.size + 1, 1, none⟩ = some (.int .i64 c) := by
  have b0 := (Below.refl w.heap.size w).alloc (Nat.le_refl _) (.cells #[x] 25)
  have b1 := (Below.refl (w.alloc (.cells #[x] 25)).heap.size (w.alloc (.cells #[x] 25))).alloc (Nat.le_refl _) (.cells #[.int .i64 m, .int .i64 c] 38)
  have z0 := alloc_here w (.cells #[x] 25)
  have z1 := alloc_here (w.alloc (.cells #[x] 25)) (.cells #[.int .i64 m, .int .i64 c] 38)
  have y0 := cell_of_block ((b1.block w.heap.size (by simp)).trans z0) 0
  have y1 := cell_of_block z1 0
  have y2 := cell_of_block z1 1
  simp only [List.getElem?_toArray, List.getElem?_cons_zero, List.getElem?_cons_succ, World.size_alloc] at y0 y1 y2
  exact ⟨b0.trans (b1.mono b0.size), y0, y1, y2⟩
set_option maxHeartbeats 8000000 in
set_option maxRecDepth 100000 in
theorem fnParse_any (a : Option Addr) (len cap : Nat) (w : World) (hlen : len ≤ 9223372036854775807) (hst : StdAt w) (het : ErrT w) (HDP : len ≤ 1048576 → Calls Tryz.prog 22 #[.slice a len cap] w fun e w' => DrawnT w e w') :
    Calls Tryz.prog 4 #[.slice a len cap] w fun e w' => e = .returned (.bool true) ∧ Below w.heap.size w w' := by
  by_cases hs : len ≤ 1048576
  · have hs' : ¬ (1048576 : Int) < (len : Int) := by omega
    have HD := HDP hs
    clear HDP
    go_enter Tryz.func4, Tryz.ntmps4
    go_wp2_with (go_at_call 22; refine HD.mono ?_)
    rintro e w1 ⟨s, hs1, rfl, b1⟩
    have st1 := hst.below b1
    have et1 := het.below b1 (Nat.le_refl _)
    clear HD hst het
    cases hP : parseT s.data.toList with
    | good bs =>
      have HI := implParse_good s (w := w1) (by omega) st1 hP
      have HPH := hid_in hP
      have HOK := hid_in (normBs_ok (parseT_good hP))
      have HST := hid_in st1
      have G1 := hid_in b1
      clear st1 et1 b1 hP
      go_wp2_with (go_at_call 21; refine HI.mono ?_)
      rintro e w2 ⟨sa, sn, sc, gs, rfl, hpg, hmg, hsg, hlg, b2⟩
      obtain ⟨x2, k0, k1, k2⟩ := boxesFp w2 (.slice sa sn sc) 0 0
      have B2 := b2.trans (x2.mono b2.size)
      have IN2 := hid_in ((grows_in hmg).below x2)
      have SM2 := hid_in (gat_small (by omega) hsg)
      have HS := specParse_good s (w := (w2.alloc (.cells #[.slice sa sn sc] 25)).alloc (.cells #[.int .i64 0, .int .i64 0] 38)) (by omega) HPH.out
      have HPG := hid_in hpg
      clear HI hpg hmg hsg hlg x2 b2
      generalize hW2 : (w2.alloc (.cells #[.slice sa sn sc] 25)).alloc (.cells #[.int .i64 0, .int .i64 0] 38) = W2 at *
      have eW2 := hid_in hW2
      clear hW2
      go_wp2_with (go_at_call 23; (try rw [eW2.out]); refine HS.mono ?_)
      rintro e w3 ⟨ga, gn, gc, bs3, rfl, ⟨hp3, hin3⟩, b3⟩
      obtain ⟨x3, j0, j1, j2⟩ := boxesFp w3 (.slice ga gn gc) 0 0
      have X3 := b3.trans (x3.mono b3.size)
      have k0a := (X3.cell (World.block_lt_of_cell? W2 _ k0)).trans k0
      have k1a := (X3.cell (World.block_lt_of_cell? W2 _ k1)).trans k1
      have k2a := (X3.cell (World.block_lt_of_cell? W2 _ k2)).trans k2
      have HW := wSheet_g (IN2.out.below X3) (hin3.below x3) SM2.out
      rw [show (gs.map GAt.b).map BAt.plain = plainG gs from rfl, HPG.out, hp3, eqB_true rfl] at HW
      have B3 := B2.trans (X3.mono B2.size)
      have IN3 := hid_in (IN2.out.below X3)
      clear HS hp3 hin3 b3 x3 X3 k0 k1 k2 B2 IN2
      generalize hW3 : (w3.alloc (.cells #[.slice ga gn gc] 25)).alloc (.cells #[.int .i64 0, .int .i64 0] 38) = W3 at *
      have eW3 := hid_in hW3
      clear hW3
      go_upto_region 6 with fail
      rw [eW3.out]
      go_wp2_with (go_at_call 12; (try rw [eW3.out]); refine HW.mono ?_)
      first | rintro e w4 rfl b4 | rintro e w4 ⟨rfl, b4⟩
      have k0b := (b4.cell (World.block_lt_of_cell? W3 _ k0a)).trans k0a
      have k1b := (b4.cell (World.block_lt_of_cell? W3 _ k1a)).trans k1a
      have k2b := (b4.cell (World.block_lt_of_cell? W3 _ k2a)).trans k2a
      have B4 := B3.trans (b4.mono B3.size)
      have G4 := hid_in (G1.out.trans (B4.mono G1.out.size))
      have ST4 := hid_in (HST.out.below B4)
      have IN4 := hid_in (IN3.out.below b4)
      have HPR := implPrint_any IN4.out SM2.out ST4.out
      obtain ⟨P, eP⟩ : ∃ P, normBs bs = P := ⟨_, rfl⟩
      obtain ⟨Q, hQ, hN, hpl⟩ := parse_printF P
      rw [show (gs.map GAt.b).map BAt.plain = plainG gs from rfl, HPG.out, eP] at HPR
      have EP := hid_in eP
      have HQH := hid_in hQ
      have HNH := hid_in hN
      clear HW b4 k0a k1a k2a j0 j1 j2 B3 IN3 HST G1 eP hQ hN
      generalize hT : printL P = tp at *
      have hsz : (⟨tp.toArray⟩ : ByteArray).size ≤ 4000000 := by show tp.toArray.size ≤ 4000000; rw [List.size_toArray]; omega
      go_wp2_with (go_at_call 20; refine HPR.mono ?_)
      first | rintro e w5 rfl b5 | rintro e w5 ⟨rfl, b5⟩
      have HI5 := implParse_good ⟨tp.toArray⟩ (w := w5) (bs := Q) hsz (ST4.out.below b5) (by simpa using HQH.out)
      have k0c := (b5.cell (World.block_lt_of_cell? w4 _ k0b)).trans k0b
      have G5 := hid_in (G4.out.trans (b5.mono G4.out.size))
      have ST5 := hid_in (ST4.out.below b5)
      have IN5 := hid_in (IN4.out.below b5)
      clear HPR b5 k0b k1b k2b G4 ST4 IN4 B4
      go_wp2_with (go_at_call 21; refine HI5.mono ?_)
      rintro e w6 ⟨ta, tn, tc, ts, rfl, hpt, hmt, hst6, hlt6, b6⟩
      obtain ⟨x6, q0, q1, q2⟩ := boxesFp w6 (.slice ta tn tc) 0 0
      have X6 := b6.trans (x6.mono b6.size)
      have k0d := (X6.cell (World.block_lt_of_cell? w5 _ k0c)).trans k0c
      have IN6 := hid_in (IN5.out.below X6)
      have INT := hid_in ((grows_in hmt).below x6)
      have SMT := hid_in (gat_small (by omega) hst6)
      have HPT := hid_in hpt
      have HV := implValid_any IN6.out SM2.out (ST5.out.below X6)
      rw [show (gs.map GAt.b).map BAt.plain = plainG gs from rfl, HPG.out, sheetB_iff.2 HOK.out] at HV
      have G6 := hid_in (G5.out.trans (X6.mono G5.out.size))
      clear HI5 hpt hmt hst6 hlt6 b6 x6 X6 k0c G5 ST5 IN5
      generalize hW6 : (w6.alloc (.cells #[.slice ta tn tc] 25)).alloc (.cells #[.int .i64 0, .int .i64 0] 38) = W6 at *
      have eW6 := hid_in hW6
      clear hW6
      go_upto_region 28 with fail
      rw [eW6.out]
      go_wp2_with (go_at_call 19; (try rw [eW6.out]); refine HV.mono ?_)
      first | rintro e w7 rfl b7 | rintro e w7 ⟨rfl, b7⟩
      have k0e := (b7.cell (World.block_lt_of_cell? W6 _ k0d)).trans k0d
      have q0a := (b7.cell (World.block_lt_of_cell? W6 _ q0)).trans q0
      have q2a := (b7.cell (World.block_lt_of_cell? W6 _ q2)).trans q2
      have G7 := hid_in (G6.out.trans (b7.mono G6.out.size))
      by_cases h0 : tp = []
      · subst h0
        clear HV
        go_wp2
        go_ret
        exact ⟨rfl, G7.out⟩
      · have hne : tp.isEmpty = false := by cases tp with | nil => exact absurd rfl h0 | cons _ _ => rfl
        have HW := wSheet_g (INT.out.below b7) (IN6.out.below b7) SMT.out
        rw [show (ts.map GAt.b).map BAt.plain = plainG ts from rfl, HPT.out, show (gs.map GAt.b).map BAt.plain = plainG gs from rfl, HPG.out, EP.out, eqB_true (HNH.out h0)] at HW
        clear HV b7
        go_wp2_with (go_at_call 12; refine HW.mono ?_)
        first | rintro e w8 rfl b8 | rintro e w8 ⟨rfl, b8⟩
        have G8 := hid_in (G7.out.trans (b8.mono G7.out.size))
        clear HW b8
        go_wp2
        go_ret
        exact ⟨rfl, G8.out⟩
    | bad m c =>
      have HI := implParse_bad s (w := w1) (by omega) st1 et1 hP
      have HPH := hid_in hP
      have HST := hid_in st1
      have HET := hid_in et1
      have G1 := hid_in b1
      have hc0 := bad_code hP
      have hcn : (c != 0) = true := by rw [bne_iff_ne]; exact hc0
      have hce : (c == 0) = false := by rw [beq_eq_false_iff_ne]; exact hc0
      clear st1 et1 b1 hP
      go_wp2_with (go_at_call 21; refine HI.mono ?_)
      first | rintro e w2 rfl b2 | rintro e w2 ⟨rfl, b2⟩
      obtain ⟨x2, k0, k1, k2⟩ := boxesFp w2 (.slice none 0 0) m c
      have B2 := b2.trans (x2.mono b2.size)
      have HS := specParse_bad s (w := (w2.alloc (.cells #[.slice none 0 0] 25)).alloc (.cells #[.int .i64 m, .int .i64 c] 38)) (by omega) HPH.out
      clear HI x2 b2
      generalize hW2 : (w2.alloc (.cells #[.slice none 0 0] 25)).alloc (.cells #[.int .i64 m, .int .i64 c] 38) = W2 at *
      go_wp2_with (go_at_call 23; (try rw [hW2]); refine HS.mono ?_)
      first | rintro e w3 rfl b3 | rintro e w3 ⟨rfl, b3⟩
      obtain ⟨x3, j0, j1, j2⟩ := boxesFp w3 (.slice none 0 0) m c
      have X3 := b3.trans (x3.mono b3.size)
      have k0a := (X3.cell (World.block_lt_of_cell? W2 _ k0)).trans k0
      have k1a := (X3.cell (World.block_lt_of_cell? W2 _ k1)).trans k1
      have k2a := (X3.cell (World.block_lt_of_cell? W2 _ k2)).trans k2
      have B3 := B2.trans (X3.mono B2.size)
      clear HS b3 x3 X3 k0 k1 k2 B2 hW2
      generalize hW3 : (w3.alloc (.cells #[.slice none 0 0] 25)).alloc (.cells #[.int .i64 m, .int .i64 c] 38) = W3 at *
      have HW := wSheet_g (nil_in W3) (nil_in W3) ⟨by simp, fun b hb => by cases hb⟩
      rw [eqB_true rfl] at HW
      go_wp2_with (go_at_call 12; (try rw [hW3]); refine HW.mono ?_)
      first | rintro e w4 rfl b4 | rintro e w4 ⟨rfl, b4⟩
      have k0b := (b4.cell (World.block_lt_of_cell? W3 _ k0a)).trans k0a
      have k1b := (b4.cell (World.block_lt_of_cell? W3 _ k1a)).trans k1a
      have k2b := (b4.cell (World.block_lt_of_cell? W3 _ k2a)).trans k2a
      have B4 := B3.trans (b4.mono B3.size)
      have G4 := hid_in (G1.out.trans (B4.mono G1.out.size))
      have ST4 := hid_in (HST.out.below B4)
      have ET4 := hid_in (HET.out.below B4 (Nat.le_refl _))
      clear HW b4 k0a k1a k2a j0 j1 j2 B3 B4 hW3 HST HET G1
      by_cases h8 : c = 8
      · subst h8
        go_wp2
        go_ret
        exact ⟨rfl, G4.out⟩
      by_cases h11 : c = 11
      · subst h11
        go_wp2
        go_ret
        exact ⟨rfl, G4.out⟩
      have h8' : (c == 8) = false := by rw [beq_eq_false_iff_ne]; exact h8
      have h11' : (c == 11) = false := by rw [beq_eq_false_iff_ne]; exact h11
      obtain ⟨_, hm1, hm4, hTne, hup⟩ := bad_upto HPH.out h8 h11
      have HUP := hid_in hup
      have HH0 := hid_in (show headFrom m s.data.toList = s.data.toList.take 0 ++ headFrom m (s.data.toList.drop 0) from by simp)
      have hTl : s.data.toList.length = s.size := rfl
      have hs0 : 0 < s.size := by rw [← hTl]; exact List.length_pos_iff.2 hTne
      clear hup hTne h8 h11 hc0
      go_wp2
      go_loopw [8, 9, 10] (fun kv hv iv wr => ∃ (i k' : Nat), iv = .int .i64 (i : Int) ∧ kv = .int .i64 (k' : Int) ∧ hv = .string s ∧ 1 ≤ k' ∧ k' ≤ m ∧ i ≤ s.size ∧ Hid (headFrom m s.data.toList = s.data.toList.take i ++ headFrom k' (s.data.toList.drop i)) ∧ wr = w4) (fun _ _ iv _ => s.size - (intOf iv).toNat)
      case atStart => exact ⟨0, m, rfl, rfl, rfl, hm1, Nat.le_refl _, by omega, HH0, rfl⟩
      case round =>
        clear HH0
        obtain ⟨i, k', rfl, rfl, rfl, hk1, hkm, hi, HH, rfl⟩ := hrel
        by_cases hlt : i < s.size
        · have hlt' : ((i : Int) < (s.size : Int)) := by omega
          have hi0 : (0 : Int) ≤ (i : Int) := by omega
          have hst := hid_in (head_step HH.out (show i < s.data.toList.length from hlt))
          by_cases hc10 : (s[i]'hlt).toNat = 10
          · have h10 : (((s[i]'hlt).toNat : Int) == 10) = true := by rw [beq_iff_eq]; omega
            have hT : s.data.toList[i]'hlt = 10 := UInt8.toNat_inj.1 hc10
            by_cases hk : k' = 1
            · subst hk
              have hh := hid_in (hst.out.2.2 hT (Nat.le_refl _))
              clear HH hst hc10 hT
              have q0 : (0 : Int) ≤ (i : Int) + 1 := by omega
              have q1 : (i : Int) + 1 ≤ (s.size : Int) := by omega
              have q2 : ((i : Int) + 1).toNat = i + 1 := by omega
              have q3 : IntKind.i64.wrap ((i : Int) + 1) = (i : Int) + 1 := by rw [IntKind.wrap_i64]; omega
              go_upto_region 22 with fail
              have HHD0 := hid_in (show (s.extract 0 (i + 1)).data.toList = headFrom m s.data.toList from by rw [bytes_take, hh.out])
              have hz0 : (s.extract 0 (i + 1)).size = i + 1 := by rw [ByteArray.size_extract]; omega
              generalize s.extract 0 (i + 1) = hd at *
              have HHD := HHD0
              have hd0 : 0 < hd.size := by omega
              have hdz : hd.size ≤ 1600000 := by omega
              clear HHD0 hz0 q0 q1 q2 q3 h10 hh
              have hdl : hd.data.toList.length = hd.size := rfl
              have hne : hd.data.toList ≠ [] := fun e => by rw [e] at hdl; simp at hdl; omega
              have HNL := hid_in (nlE_last _ hne)
              have q1 : (0 : Int) ≤ (hd.size : Int) - 1 := by omega
              have q2 : (hd.size : Int) - 1 < (hd.size : Int) := by omega
              have q3 : ((hd.size : Int) - 1).toNat = hd.size - 1 := by omega
              have q4 : IntKind.i64.wrap ((hd.size : Int) - 1) = (hd.size : Int) - 1 := by rw [IntKind.wrap_i64]; omega
              have q5 : hd.size - 1 < hd.size := by omega
              have q6 : ((hd.size : Int) - 1) = ((hd.size - 1 : Nat) : Int) := by omega
              by_cases hb : (hd[hd.size - 1]'q5).toNat = 10
              · have hb' : (((hd[hd.size - 1]'q5).toNat : Int) != 10) = false := by rw [bne_eq_false_iff_eq]; omega
                have hb2 : (((hd[hd.size - 1]'q5).toNat : Int) == 10) = true := by rw [beq_iff_eq]; omega
                have HZ := hid_in (show nlE (headFrom m s.data.toList) = hd.data.toList from by
                  rw [← HHD.out, HNL.out]
                  have e : hd.data.toList[hd.data.toList.length - 1]'(by omega) = hd[hd.size - 1]'q5 := rfl
                  rw [if_pos (by rw [e]; exact UInt8.toNat_inj.1 hb)])
                clear HNL hne
                obtain ⟨hx, ehx⟩ : ∃ hx : ByteArray, hd = hx := ⟨_, rfl⟩
                have hxz : hx.size ≤ 1600001 := by rw [← ehx]; omega
                have hzx : (⟨zapL.toArray⟩ : ByteArray).size = 11 := rfl
                have EHX := hid_in (show (hx ++ ⟨zapL.toArray⟩ : ByteArray).data.toList = nlE (headFrom m s.data.toList) ++ zapL from by rw [HZ.out, ← ehx]; simp [ByteArray.data_append])
                have EHL := hid_in (show (nlE (headFrom m s.data.toList)).length = hx.size from by rw [HZ.out, ← ehx]; exact hdl)
                by_cases hok : hx.size + 20 ≤ 20000 ∧ m + 3 ≤ 400
                · have HQ := implParse_bad (hx ++ ⟨zapL.toArray⟩) (w := wr) (m := m) (c := c) (by rw [ByteArray.size_append]; omega) ST4.out ET4.out (by rw [EHX.out]; exact HUP.out (by rw [EHL.out]; exact hok.1) hok.2)
                  clear hok
                  rw [← ehx] at HQ hxz
                  unfold zapL at HQ hzx
                  clear ehx EHX EHL HZ HUP
                  go_wp2_with (go_at_call 21; refine HQ.mono ?_)
                  first | rintro e w5 rfl b5 | rintro e w5 ⟨rfl, b5⟩
                  obtain ⟨x5, r0, r1, r2⟩ := boxesFp w5 (.slice none 0 0) m c
                  have X5 := b5.trans (x5.mono b5.size)
                  have k1c := (X5.cell (World.block_lt_of_cell? wr _ k1b)).trans k1b
                  have k2c := (X5.cell (World.block_lt_of_cell? wr _ k2b)).trans k2b
                  have HO := hid_in (G4.out.trans (X5.mono G4.out.size))
                  clear HQ b5 x5 X5
                  go_wp2
                  go_ret
                  exact ⟨rfl, HO.out⟩
                · have HQ := implParse_some (hx ++ ⟨zapL.toArray⟩) (w := wr) (by rw [ByteArray.size_append]; omega) ST4.out ET4.out
                  have hbig : 20000 < (hx.size : Int) + 20 ∨ 400 < (m : Int) + 3 := by omega
                  have ehs := hid_in (congrArg ByteArray.size ehx)
                  have hbig : 20000 < (hd.size : Int) + 20 ∨ 400 < (m : Int) + 3 := by rw [ehx]; exact hbig
                  rw [← ehx] at HQ hxz
                  unfold zapL at HQ hzx
                  clear EHX EHL HZ HUP hok ehs ehx
                  go_wp2_with (go_at_call 21; refine HQ.mono ?_)
                  rintro e w5 ⟨ya, yn, yc, ym, yd, rfl, b5⟩
                  obtain ⟨x5, r0, r1, r2⟩ := boxesFp w5 (.slice ya yn yc) ym yd
                  have X5 := b5.trans (x5.mono b5.size)
                  have k1c := (X5.cell (World.block_lt_of_cell? wr _ k1b)).trans k1b
                  have k2c := (X5.cell (World.block_lt_of_cell? wr _ k2b)).trans k2b
                  have HO := hid_in (G4.out.trans (X5.mono G4.out.size))
                  clear HQ b5 x5 X5
                  have hmd : ¬ (ym = (m : Int) ∧ yd = c) ∨ (ym = (m : Int) ∧ yd = c) := by by_cases h : (ym = (m : Int) ∧ yd = c) <;> simp [h]
                  rcases hmd with hmd | ⟨rfl, rfl⟩
                  rotate_left 1
                  · go_wp2
                    go_ret
                    exact ⟨rfl, HO.out⟩
                  have hmd2 : ym = (m : Int) → yd ≠ c := fun e1 e2 => hmd ⟨e1, e2⟩
                  clear hmd
                  by_cases hbb : (20000 : Int) < (hd.size : Int) + 20
                  all_goals
                    try have hb3 : (400 : Int) < (m : Int) + 3 := by omega
                    by_cases em : ym = (m : Int)
                    · have hd2 : (yd == c) = false := by rw [beq_eq_false_iff_ne]; exact hmd2 em
                      subst em
                      go_wp2
                      go_ret
                      exact ⟨rfl, HO.out⟩
                    · have hm2 : (ym == (m : Int)) = false := by rw [beq_eq_false_iff_ne]; exact em
                      go_wp2
                      go_ret
                      exact ⟨rfl, HO.out⟩
              · have hb' : (((hd[hd.size - 1]'q5).toNat : Int) != 10) = true := by rw [bne_iff_ne]; omega
                have hb2 : (((hd[hd.size - 1]'q5).toNat : Int) == 10) = false := by rw [beq_eq_false_iff_ne]; omega
                have HZ := hid_in (show nlE (headFrom m s.data.toList) = hd.data.toList ++ [10] from by
                  rw [← HHD.out, HNL.out]
                  have e : hd.data.toList[hd.data.toList.length - 1]'(by omega) = hd[hd.size - 1]'q5 := rfl
                  rw [if_neg (by rw [e]; exact fun e' => hb (by rw [e']; rfl))])
                clear HNL hne
                obtain ⟨hx, ehx⟩ : ∃ hx : ByteArray, (hd ++ ⟨#[10]⟩) = hx := ⟨_, rfl⟩
                have hxz : hx.size ≤ 1600001 := by rw [← ehx]; rw [ByteArray.size_append]; show hd.size + 1 ≤ _; omega
                have hzx : (⟨zapL.toArray⟩ : ByteArray).size = 11 := rfl
                have EHX := hid_in (show (hx ++ ⟨zapL.toArray⟩ : ByteArray).data.toList = nlE (headFrom m s.data.toList) ++ zapL from by rw [HZ.out, ← ehx]; simp [ByteArray.data_append])
                have EHL := hid_in (show (nlE (headFrom m s.data.toList)).length = hx.size from by rw [HZ.out, ← ehx]; rw [List.length_append, ByteArray.size_append]; exact congrArg (· + 1) hdl)
                by_cases hok : hx.size + 20 ≤ 20000 ∧ m + 3 ≤ 400
                · have HQ := implParse_bad (hx ++ ⟨zapL.toArray⟩) (w := wr) (m := m) (c := c) (by rw [ByteArray.size_append]; omega) ST4.out ET4.out (by rw [EHX.out]; exact HUP.out (by rw [EHL.out]; exact hok.1) hok.2)
                  clear hok
                  rw [← ehx] at HQ hxz
                  unfold zapL at HQ hzx
                  clear ehx EHX EHL HZ HUP
                  go_wp2_with (go_at_call 21; refine HQ.mono ?_)
                  first | rintro e w5 rfl b5 | rintro e w5 ⟨rfl, b5⟩
                  obtain ⟨x5, r0, r1, r2⟩ := boxesFp w5 (.slice none 0 0) m c
                  have X5 := b5.trans (x5.mono b5.size)
                  have k1c := (X5.cell (World.block_lt_of_cell? wr _ k1b)).trans k1b
                  have k2c := (X5.cell (World.block_lt_of_cell? wr _ k2b)).trans k2b
                  have HO := hid_in (G4.out.trans (X5.mono G4.out.size))
                  clear HQ b5 x5 X5
                  go_wp2
                  go_ret
                  exact ⟨rfl, HO.out⟩
                · have HQ := implParse_some (hx ++ ⟨zapL.toArray⟩) (w := wr) (by rw [ByteArray.size_append]; omega) ST4.out ET4.out
                  have hbig : 20000 < (hx.size : Int) + 20 ∨ 400 < (m : Int) + 3 := by omega
                  have ehs := hid_in (congrArg ByteArray.size ehx)
                  have hbig : 20000 < (hd.size : Int) + 1 + 20 ∨ 400 < (m : Int) + 3 := by have e : (hd ++ ⟨#[10]⟩ : ByteArray).size = hd.size + 1 := ByteArray.size_append; rw [ehx] at e; omega
                  rw [← ehx] at HQ hxz
                  unfold zapL at HQ hzx
                  clear EHX EHL HZ HUP hok ehs ehx
                  go_wp2_with (go_at_call 21; refine HQ.mono ?_)
                  rintro e w5 ⟨ya, yn, yc, ym, yd, rfl, b5⟩
                  obtain ⟨x5, r0, r1, r2⟩ := boxesFp w5 (.slice ya yn yc) ym yd
                  have X5 := b5.trans (x5.mono b5.size)
                  have k1c := (X5.cell (World.block_lt_of_cell? wr _ k1b)).trans k1b
                  have k2c := (X5.cell (World.block_lt_of_cell? wr _ k2b)).trans k2b
                  have HO := hid_in (G4.out.trans (X5.mono G4.out.size))
                  clear HQ b5 x5 X5
                  have hmd : ¬ (ym = (m : Int) ∧ yd = c) ∨ (ym = (m : Int) ∧ yd = c) := by by_cases h : (ym = (m : Int) ∧ yd = c) <;> simp [h]
                  rcases hmd with hmd | ⟨rfl, rfl⟩
                  rotate_left 1
                  · go_wp2
                    go_ret
                    exact ⟨rfl, HO.out⟩
                  have hmd2 : ym = (m : Int) → yd ≠ c := fun e1 e2 => hmd ⟨e1, e2⟩
                  clear hmd
                  by_cases hbb : (20000 : Int) < (hd.size : Int) + 1 + 20
                  all_goals
                    try have hb3 : (400 : Int) < (m : Int) + 3 := by omega
                    by_cases em : ym = (m : Int)
                    · have hd2 : (yd == c) = false := by rw [beq_eq_false_iff_ne]; exact hmd2 em
                      subst em
                      go_wp2
                      go_ret
                      exact ⟨rfl, HO.out⟩
                    · have hm2 : (ym == (m : Int)) = false := by rw [beq_eq_false_iff_ne]; exact em
                      go_wp2
                      go_ret
                      exact ⟨rfl, HO.out⟩
            · have hk2 : (((k' : Int) - 1) == 0) = false := by rw [beq_eq_false_iff_ne]; omega
              have hh := hid_in (hst.out.2.1 hT (by omega))
              clear HH hst hc10 hT
              go_wp2
              go_roundw
              case rel => exact ⟨i + 1, k' - 1, by go_num, by go_num, rfl, by omega, by omega, by omega, hh, trivial⟩
              case measure => simp [intOf]; omega
          · have h10 : (((s[i]'hlt).toNat : Int) == 10) = false := by rw [beq_eq_false_iff_ne]; omega
            have hh := hid_in (hst.out.1 (fun e => hc10 (by show (s.data.toList[i]'hlt).toNat = 10; rw [e]; rfl)))
            clear HH hst hc10
            go_wp2
            go_roundw
            case rel => exact ⟨i + 1, k', by go_num, rfl, rfl, hk1, hkm, by omega, hh, trivial⟩
            case measure => simp [intOf]; omega
        · obtain rfl : i = s.size := by omega
          have hlt' : ¬ ((s.size : Int) < (s.size : Int)) := by omega
          have HHD := hid_in (show s.data.toList = headFrom m s.data.toList from by have h1 := HH.out; rw [← hTl, List.take_length, List.drop_length] at h1; rw [h1]; simp [headFrom])
          clear HH
          go_upto_region 22 with fail
          have hd0 : 0 < s.size := hs0
          have hdz : s.size ≤ 1600000 := hs1
          have hdl : s.data.toList.length = s.size := rfl
          have hne : s.data.toList ≠ [] := fun e => by rw [e] at hdl; simp at hdl; omega
          have HNL := hid_in (nlE_last _ hne)
          have q1 : (0 : Int) ≤ (s.size : Int) - 1 := by omega
          have q2 : (s.size : Int) - 1 < (s.size : Int) := by omega
          have q3 : ((s.size : Int) - 1).toNat = s.size - 1 := by omega
          have q4 : IntKind.i64.wrap ((s.size : Int) - 1) = (s.size : Int) - 1 := by rw [IntKind.wrap_i64]; omega
          have q5 : s.size - 1 < s.size := by omega
          have q6 : ((s.size : Int) - 1) = ((s.size - 1 : Nat) : Int) := by omega
          by_cases hb : (s[s.size - 1]'q5).toNat = 10
          · have hb' : (((s[s.size - 1]'q5).toNat : Int) != 10) = false := by rw [bne_eq_false_iff_eq]; omega
            have hb2 : (((s[s.size - 1]'q5).toNat : Int) == 10) = true := by rw [beq_iff_eq]; omega
            have HZ := hid_in (show nlE (headFrom m s.data.toList) = s.data.toList from by
              rw [← HHD.out, HNL.out]
              have e : s.data.toList[s.data.toList.length - 1]'(by omega) = s[s.size - 1]'q5 := rfl
              rw [if_pos (by rw [e]; exact UInt8.toNat_inj.1 hb)])
            clear HNL hne
            obtain ⟨hx, ehx⟩ : ∃ hx : ByteArray, s = hx := ⟨_, rfl⟩
            have hxz : hx.size ≤ 1600001 := by rw [← ehx]; omega
            have hzx : (⟨zapL.toArray⟩ : ByteArray).size = 11 := rfl
            have EHX := hid_in (show (hx ++ ⟨zapL.toArray⟩ : ByteArray).data.toList = nlE (headFrom m s.data.toList) ++ zapL from by rw [HZ.out, ← ehx]; simp [ByteArray.data_append])
            have EHL := hid_in (show (nlE (headFrom m s.data.toList)).length = hx.size from by rw [HZ.out, ← ehx]; exact hdl)
            by_cases hok : hx.size + 20 ≤ 20000 ∧ m + 3 ≤ 400
            · have HQ := implParse_bad (hx ++ ⟨zapL.toArray⟩) (w := wr) (m := m) (c := c) (by rw [ByteArray.size_append]; omega) ST4.out ET4.out (by rw [EHX.out]; exact HUP.out (by rw [EHL.out]; exact hok.1) hok.2)
              clear hok
              rw [← ehx] at HQ hxz
              unfold zapL at HQ hzx
              clear ehx EHX EHL HZ HUP
              go_wp2_with (go_at_call 21; refine HQ.mono ?_)
              first | rintro e w5 rfl b5 | rintro e w5 ⟨rfl, b5⟩
              obtain ⟨x5, r0, r1, r2⟩ := boxesFp w5 (.slice none 0 0) m c
              have X5 := b5.trans (x5.mono b5.size)
              have k1c := (X5.cell (World.block_lt_of_cell? wr _ k1b)).trans k1b
              have k2c := (X5.cell (World.block_lt_of_cell? wr _ k2b)).trans k2b
              have HO := hid_in (G4.out.trans (X5.mono G4.out.size))
              clear HQ b5 x5 X5
              go_wp2
              go_ret
              exact ⟨rfl, HO.out⟩
            · have HQ := implParse_some (hx ++ ⟨zapL.toArray⟩) (w := wr) (by rw [ByteArray.size_append]; omega) ST4.out ET4.out
              have hbig : 20000 < (hx.size : Int) + 20 ∨ 400 < (m : Int) + 3 := by omega
              have ehs := hid_in (congrArg ByteArray.size ehx)
              have hbig : 20000 < (s.size : Int) + 20 ∨ 400 < (m : Int) + 3 := by rw [ehx]; exact hbig
              rw [← ehx] at HQ hxz
              unfold zapL at HQ hzx
              clear EHX EHL HZ HUP hok ehs ehx
              go_wp2_with (go_at_call 21; refine HQ.mono ?_)
              rintro e w5 ⟨ya, yn, yc, ym, yd, rfl, b5⟩
              obtain ⟨x5, r0, r1, r2⟩ := boxesFp w5 (.slice ya yn yc) ym yd
              have X5 := b5.trans (x5.mono b5.size)
              have k1c := (X5.cell (World.block_lt_of_cell? wr _ k1b)).trans k1b
              have k2c := (X5.cell (World.block_lt_of_cell? wr _ k2b)).trans k2b
              have HO := hid_in (G4.out.trans (X5.mono G4.out.size))
              clear HQ b5 x5 X5
              have hmd : ¬ (ym = (m : Int) ∧ yd = c) ∨ (ym = (m : Int) ∧ yd = c) := by by_cases h : (ym = (m : Int) ∧ yd = c) <;> simp [h]
              rcases hmd with hmd | ⟨rfl, rfl⟩
              rotate_left 1
              · go_wp2
                go_ret
                exact ⟨rfl, HO.out⟩
              have hmd2 : ym = (m : Int) → yd ≠ c := fun e1 e2 => hmd ⟨e1, e2⟩
              clear hmd
              by_cases hbb : (20000 : Int) < (s.size : Int) + 20
              all_goals
                try have hb3 : (400 : Int) < (m : Int) + 3 := by omega
                by_cases em : ym = (m : Int)
                · have hd2 : (yd == c) = false := by rw [beq_eq_false_iff_ne]; exact hmd2 em
                  subst em
                  go_wp2
                  go_ret
                  exact ⟨rfl, HO.out⟩
                · have hm2 : (ym == (m : Int)) = false := by rw [beq_eq_false_iff_ne]; exact em
                  go_wp2
                  go_ret
                  exact ⟨rfl, HO.out⟩
          · have hb' : (((s[s.size - 1]'q5).toNat : Int) != 10) = true := by rw [bne_iff_ne]; omega
            have hb2 : (((s[s.size - 1]'q5).toNat : Int) == 10) = false := by rw [beq_eq_false_iff_ne]; omega
            have HZ := hid_in (show nlE (headFrom m s.data.toList) = s.data.toList ++ [10] from by
              rw [← HHD.out, HNL.out]
              have e : s.data.toList[s.data.toList.length - 1]'(by omega) = s[s.size - 1]'q5 := rfl
              rw [if_neg (by rw [e]; exact fun e' => hb (by rw [e']; rfl))])
            clear HNL hne
            obtain ⟨hx, ehx⟩ : ∃ hx : ByteArray, (s ++ ⟨#[10]⟩) = hx := ⟨_, rfl⟩
            have hxz : hx.size ≤ 1600001 := by rw [← ehx]; rw [ByteArray.size_append]; show s.size + 1 ≤ _; omega
            have hzx : (⟨zapL.toArray⟩ : ByteArray).size = 11 := rfl
            have EHX := hid_in (show (hx ++ ⟨zapL.toArray⟩ : ByteArray).data.toList = nlE (headFrom m s.data.toList) ++ zapL from by rw [HZ.out, ← ehx]; simp [ByteArray.data_append])
            have EHL := hid_in (show (nlE (headFrom m s.data.toList)).length = hx.size from by rw [HZ.out, ← ehx]; rw [List.length_append, ByteArray.size_append]; exact congrArg (· + 1) hdl)
            by_cases hok : hx.size + 20 ≤ 20000 ∧ m + 3 ≤ 400
            · have HQ := implParse_bad (hx ++ ⟨zapL.toArray⟩) (w := wr) (m := m) (c := c) (by rw [ByteArray.size_append]; omega) ST4.out ET4.out (by rw [EHX.out]; exact HUP.out (by rw [EHL.out]; exact hok.1) hok.2)
              clear hok
              rw [← ehx] at HQ hxz
              unfold zapL at HQ hzx
              clear ehx EHX EHL HZ HUP
              go_wp2_with (go_at_call 21; refine HQ.mono ?_)
              first | rintro e w5 rfl b5 | rintro e w5 ⟨rfl, b5⟩
              obtain ⟨x5, r0, r1, r2⟩ := boxesFp w5 (.slice none 0 0) m c
              have X5 := b5.trans (x5.mono b5.size)
              have k1c := (X5.cell (World.block_lt_of_cell? wr _ k1b)).trans k1b
              have k2c := (X5.cell (World.block_lt_of_cell? wr _ k2b)).trans k2b
              have HO := hid_in (G4.out.trans (X5.mono G4.out.size))
              clear HQ b5 x5 X5
              go_wp2
              go_ret
              exact ⟨rfl, HO.out⟩
            · have HQ := implParse_some (hx ++ ⟨zapL.toArray⟩) (w := wr) (by rw [ByteArray.size_append]; omega) ST4.out ET4.out
              have hbig : 20000 < (hx.size : Int) + 20 ∨ 400 < (m : Int) + 3 := by omega
              have ehs := hid_in (congrArg ByteArray.size ehx)
              have hbig : 20000 < (s.size : Int) + 1 + 20 ∨ 400 < (m : Int) + 3 := by have e : (s ++ ⟨#[10]⟩ : ByteArray).size = s.size + 1 := ByteArray.size_append; rw [ehx] at e; omega
              rw [← ehx] at HQ hxz
              unfold zapL at HQ hzx
              clear EHX EHL HZ HUP hok ehs ehx
              go_wp2_with (go_at_call 21; refine HQ.mono ?_)
              rintro e w5 ⟨ya, yn, yc, ym, yd, rfl, b5⟩
              obtain ⟨x5, r0, r1, r2⟩ := boxesFp w5 (.slice ya yn yc) ym yd
              have X5 := b5.trans (x5.mono b5.size)
              have k1c := (X5.cell (World.block_lt_of_cell? wr _ k1b)).trans k1b
              have k2c := (X5.cell (World.block_lt_of_cell? wr _ k2b)).trans k2b
              have HO := hid_in (G4.out.trans (X5.mono G4.out.size))
              clear HQ b5 x5 X5
              have hmd : ¬ (ym = (m : Int) ∧ yd = c) ∨ (ym = (m : Int) ∧ yd = c) := by by_cases h : (ym = (m : Int) ∧ yd = c) <;> simp [h]
              rcases hmd with hmd | ⟨rfl, rfl⟩
              rotate_left 1
              · go_wp2
                go_ret
                exact ⟨rfl, HO.out⟩
              have hmd2 : ym = (m : Int) → yd ≠ c := fun e1 e2 => hmd ⟨e1, e2⟩
              clear hmd
              by_cases hbb : (20000 : Int) < (s.size : Int) + 1 + 20
              all_goals
                try have hb3 : (400 : Int) < (m : Int) + 3 := by omega
                by_cases em : ym = (m : Int)
                · have hd2 : (yd == c) = false := by rw [beq_eq_false_iff_ne]; exact hmd2 em
                  subst em
                  go_wp2
                  go_ret
                  exact ⟨rfl, HO.out⟩
                · have hm2 : (ym == (m : Int)) = false := by rw [beq_eq_false_iff_ne]; exact em
                  go_wp2
                  go_ret
                  exact ⟨rfl, HO.out⟩
  · have hs' : (1048576 : Int) < (len : Int) := by omega
    clear HDP
    go_enter Tryz.func4, Tryz.ntmps4
    go_wp2
    go_ret
    exact ⟨rfl, Below.refl _ _⟩
end Go.Proofs.YtpdahhnjhggocaaGreatDoor
namespace Go.Proofs.YtpdahhnjhggocaaGreatDoor
open Go.RowKit
theorem fnParse_all (a : Option Addr) (len cap : Nat) (w : World) (hc : len ≤ 1048576 → Code w.heap.size w a len cap) (hlen : len ≤ 9223372036854775807) (hst : StdAt w) (het : ErrT w) : Calls Tryz.prog 4 #[.slice a len cap] w fun e w' => e = .returned (.bool true) ∧ Below w.heap.size w w' :=
  fnParse_any a len cap w hlen hst het (fun h => drawParse_any a len cap w (hc h))
end Go.Proofs.YtpdahhnjhggocaaGreatDoor
