import Derived.Test.YtdcnfbhfpfikjaaDoorRulesZ
import Derived.Test.YtdcnfbhfpfikjaaDoorRulesG2
import Derived.Test.YtdcnfbhfpfikjaaDoorRulesS
import Derived.Test.YtdcnfbhfpfikjaaDoorWWords
import Derived.BigQuiet
namespace Go.Proofs.YtdcnfbhfpfikjaaDoor
open Go.RowKit
/-- A kind that has been drawn. -/
def KindOf (w : World) (e : Ending) (w' : World) : Prop := ∃ t : ByteArray, e = .returned (.string t) ∧ Below w.heap.size w w'
set_option maxHeartbeats 4000000 in
set_option maxRecDepth 100000 in
theorem fnRules_any (a : Option Addr) (len cap : Nat) (w : World) (hc : len ≤ 1048576 → Code w.heap.size w a len cap) (hlen : len ≤ 9223372036854775807) (hst : StdAt w) :
    Calls Tryd.prog 4 #[.slice a len cap] w fun e w' => e = .returned (.bool true) ∧ Below w.heap.size w w' := by
  by_cases hs : len ≤ 1048576
  · have hs' : ¬ (1048576 : Int) < (len : Int) := by omega
    have hC := hc hs
    clear hc
    have HD : Calls Tryd.prog 13 #[.slice a len cap] w fun e w' => KindOf w e w' := drawRules_any a len cap w hC
    go_enter Tryd.func4, Tryd.ntmps4
    go_wp2_with (go_at_call 13; refine HD.mono ?_)
    rintro e w1 ⟨kind, rfl, b1⟩
    clear HD
    have hsm := rulesOf_like kind
    have hgd := rulesOf_good kind
    have hsd := rulesOf_smallD kind
    have HI := implRules_any kind w1
    have HS := fun W => specRules_any kind W
    have HF := @implFits_any
    generalize hR : rulesOf kind = R at hsm hgd hsd HI HS
    go_wp2_with (go_at_call 14; refine HI.mono ?_)
    rintro e w2 ⟨va, La, rfl, hpa, ha, b2⟩
    go_wp2_with (go_at_call 15; refine (HS w2).mono ?_)
    rintro e w3 ⟨vb, Lb, rfl, hpb, hb, b3⟩
    clear HI HS HF
    have ha3 := (ha.rm.below b3).rules
    have b13 := b1.trans ((b2.trans (b3.mono b2.size)).mono b1.size)
    have z2 := b2.size
    have z3 := b3.size
    have hpe : La.map RAt.plain = Lb.map RAt.plain := hpa.trans hpb.symm
    have hll : Lb.length = La.length := by have := congrArg List.length hpe; simpa using this.symm
    have hLn : La.length ≤ 12 := by have := hsm.1; rw [← hpa, List.length_map] at this; exact this
    obtain ⟨ao, ca, rfl, fa⟩ := own_form (show w3.ownsRow w1.heap.size 35 4 va La.length (La.flatMap RAt.cells) from Mem.head ha3)
    obtain ⟨bo, cb, rfl, fb⟩ := own_form (show w3.ownsRow w2.heap.size 35 4 vb Lb.length (Lb.flatMap RAt.cells) from Mem.head hb)
    have HA := hid_in ha3
    have HB := hid_in hb
    have HP := hid_in hpe
    have HPA := hid_in hpa
    have HG := hid_in hgd
    have HM := hid_in hsm
    have HD := hid_in hsd
    have HR := hid_in hR
    rw [hll] at fb ⊢
    obtain ⟨n, hn⟩ : ∃ n, La.length = n := ⟨_, rfl⟩
    have HLL := hid_in hll
    rw [hn] at fa fb hLn ⊢
    have HN := hid_in hn
    have hn0 : ((n : Int) != (n : Int)) = false := by simp
    clear ha ha3 hb hpa hpb hpe hgd hsm hsd b2 b3 hll hn hR
    go_wp2
    go_loopw [6] (fun i wr => ∃ j : Nat, j ≤ n ∧ i = .int .i64 (j : Int) ∧ Below w3.heap.size w3 wr) (fun i _ => n - (intOf i).toNat)
    case atStart => exact ⟨0, by omega, rfl, Below.refl _ _⟩
    case round =>
      obtain ⟨j, hj, rfl, hbw⟩ := hrel
      have zr := hbw.size
      by_cases hlt : j < n
      · rcases fa with fa | ⟨g, rfl⟩
        · omega
        rcases fb with fb | ⟨h, rfl⟩
        · omega
        obtain ⟨D, ra, T, D', rb, T', rfl, rfl, hD, hD', hpl⟩ := split2 HP.out j (by have := HN.out; omega)
        have ha' := HA.out.rm.below hbw
        have hb' := HB.out.rm.below hbw
        have hsr := HM.out.2 ra.plain (by rw [← HPA.out]; simp)
        have hdr := HD.out ra.plain (by rw [← HPA.out]; simp)
        have hgr := HG.out ra.plain (by rw [← HPA.out]; simp)
        rw [← HR.out] at hgr
        obtain ⟨key, va, ns, many, vd, ds⟩ := ra
        obtain ⟨key', va', ns', many', vd', ds'⟩ := rb
        simp only [RAt.plain, Prod.mk.injEq] at hpl hsr hdr hgr
        obtain ⟨rfl, rfl, rfl, rfl⟩ := hpl
        have o1 := ha'.args
        have o2 := ha'.defs
        have o3 := hb'.args
        have o4 := hb'.defs
        have c0 := ha'.cell 0 (by decide)
        have c1 := ha'.cell 1 (by decide)
        have c2 := ha'.cell 2 (by decide)
        have c3 := ha'.cell 3 (by decide)
        have d0 := hb'.cell 0 (by decide)
        have d1 := hb'.cell 1 (by decide)
        have d2 := hb'.cell 2 (by decide)
        have d3 := hb'.cell 3 (by decide)
        simp only [RAt.cells, hD, hD', List.getElem?_cons_zero, List.getElem?_cons_succ, Nat.add_zero] at o1 o2 o3 o4 c0 c1 c2 c3 d0 d1 d2 d3
        have hn3 := hsr.1
        have hm3 := hdr.1
        have hdl := hdr.2
        generalize hp : ns.length = p at *
        generalize hm : ds.length = m at *
        obtain ⟨ao1, ca1, rfl, f1⟩ := own_form o1
        obtain ⟨bo1, cb1, rfl, _⟩ := own_form o2
        obtain ⟨ao2, ca2, rfl, f2⟩ := own_form o3
        obtain ⟨bo2, cb2, rfl, _⟩ := own_form o4
        have HW := fun q => wWords_own (own_drewN o2 q) (own_drewN o4 q) (by omega)
        have bR := b13.trans (hbw.mono b13.size)
        have HF := fun W (hb : Below wr.heap.size wr W) => implFits_any kind key (own_below o2 hb) (by omega) (fun x hx => Nat.le_trans (hdl x hx) (by omega)) ((hst.below bR).below hb)
        have hk : (key.toList != key.toList) = false := by simp
        have hy : (many != many) = false := by simp
        have hpp : ((p : Int) != (p : Int)) = false := by simp
        have HC := hid_in hC
        have HST := hid_in hst
        have HPI := hid_in hp
        clear ha' hb' hsr hdr hdl HA HB HP HPA HG HM HD HR HLL HN o2 o4 hC hst hm hp bR
        go_wp2
        go_quiet ((go_at_call 9; refine Calls.quiet_of (HW _)))
        go_wp2
        go_loopw [7] (fun k wr2 => ∃ i q : Nat, i ≤ p ∧ k = .int .i64 (i : Int) ∧ wr2 = wr.drewN q) (fun k _ => p - (intOf k).toNat)
        case atStart => exact ⟨0, _, by omega, rfl, rfl⟩
        case round =>
          obtain ⟨i, q, hi, rfl, rfl⟩ := hrel
          by_cases hil : i < p
          · rcases f1 with f1 | ⟨g1, rfl⟩
            · omega
            rcases f2 with f2 | ⟨g2, rfl⟩
            · omega
            have e1 := o1.cellAt i (by omega)
            have e2 := o3.cellAt i (by omega)
            rw [ints_cell ns i (by have := HPI.out; omega)] at e1 e2
            generalize (ns[i]'(by have := HPI.out; omega)) = t at e1 e2
            have htt : (t != t) = false := by simp
            clear o1 o3 HW HF hgr
            go_wp2
            go_quiet (fail)
            go_wp2
            go_roundw
            case rel => exact ⟨i + 1, _, by omega, by go_num, by first | rfl | exact World.drewN_drewN _ _ _⟩
            case measure => simp [intOf]; omega
          · obtain rfl : i = p := by omega
            clear o1 o3 HW
            cases many
            · have HF' : ∀ W, Below wr.heap.size wr W → Calls Tryd.prog 16 #[.string kind, .string key, .slice bo1 m cb1] W fun e w' => e = .returned (.bool true) ∧ Below W.heap.size W w' := by
                have hg := hgr (by first | rfl | trivial)
                rw [← hg]; exact HF
              clear HF hgr
              go_wp2
              have l1 := World.block_lt_of_cell? wr _ c0
              go_region_held3 (fun W => W.cell? ⟨g, j * 4, none⟩ = some (.string key) ∧ W.cell? ⟨g, j * 4 + 2, none⟩ = some (.bool false) ∧ W.cell? ⟨g, j * 4 + 3, none⟩ = some (.slice bo1 m cb1))
                (first | go_keep | (refine ⟨(b8.cell l1).trans c0, (b8.cell l1).trans c2, (b8.cell l1).trans c3⟩))
                (first | (go_at_call 16; refine (HF' _ ((below_drewN (Below.refl _ _) q).drew)).mono ?_; rintro e w8 ⟨rfl, b8⟩))
              all_goals
                have b9 := hbw.trans ((((below_drewN (Below.refl wr.heap.size wr) q).drew).trans b8).mono hbw.size)
                clear HF'
                go_wp2
                go_roundw
                case rel => exact ⟨j + 1, by omega, by go_num, b9⟩
                case measure => simp [intOf]; omega
            · clear HF hgr
              go_wp2
              go_quiet (fail)
              go_wp2
              go_roundw
              case rel => exact ⟨j + 1, by omega, by go_num, below_drewN hbw _⟩
              case measure => simp [intOf]; omega
      · obtain rfl : j = n := by omega
        have bR := b13.trans (hbw.mono b13.size)
        have HDF := drawFits_any a len cap wr (hC.below bR bR.size)
        clear HA HB HP HPA HG HM HD HR HLL HN fa fb hC
        go_wp2_with (go_at_call 17; refine HDF.mono ?_)
        rintro e w5 ⟨k5, key5, xo, xc, ws, rfl, o5, h4, hws, b5⟩
        clear HDF
        have b05 := bR.trans (b5.mono bR.size)
        have HI := implFits_any k5 key5 o5 (by omega) (fun x hx => Nat.le_trans (hws x hx) (by omega)) (hst.below b05)
        go_wp2_with (go_at_call 16; refine HI.mono ?_)
        rintro e w6 ⟨rfl, b6⟩
        clear HI
        have HS := specFits_any k5 key5 (own_below o5 b6) (by omega) (fun x hx => Nat.le_trans (hws x hx) (by omega))
        generalize fitsIn (rulesOf k5) key5 ws = X at *
        go_wp2_with (go_at_call 18; refine HS.mono ?_)
        rintro e w7 ⟨rfl, b7⟩
        clear HS
        have hXX : (X == X) = true := by simp
        have b06 := b05.trans (b6.mono b05.size)
        have b07 := b06.trans (b7.mono b06.size)
        clear o5 hws hst
        go_wp2
        go_ret
        exact ⟨rfl, b07⟩
  · have hs' : (1048576 : Int) < (len : Int) := by omega
    clear hc hst
    go_enter Tryd.func4, Tryd.ntmps4
    go_wp2
    go_ret
    exact ⟨rfl, Below.refl _ _⟩
end Go.Proofs.YtdcnfbhfpfikjaaDoor
