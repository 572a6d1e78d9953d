import Derived.Test.YtpdahhnjhggocaaGreatDoorBun36
import Derived.Test.YtpdahhnjhggocaaGreatDoorBun34
import Derived.Test.YtpdahhnjhggocaaGreatDoorBun30
import Derived.Test.YtpdahhnjhggocaaGreatDoorBun29
import Derived.Test.YtpdahhnjhggocaaGreatDoorBun25
import Derived.Test.YtpdahhnjhggocaaGreatDoorBun17
import Derived.Test.YtpdahhnjhggocaaGreatDoorBun13
namespace Go.Proofs.YtpdahhnjhggocaaGreatDoor
open Go.RowKit
theorem slice_len {w : World} {a : Option Addr} {n c m size : Nat} {xs : List Value} (h : HasRow w (.slice a n c) m size xs) (hm : m = 0) : n = 0 := by
  obtain ⟨_, ao, cap, hv, _⟩ := h
  cases hv
  exact hm
theorem slice_eq {w : World} {a : Option Addr} {n c m size : Nat} {xs : List Value} (h : HasRow w (.slice a n c) m size xs) : n = m := by
  obtain ⟨_, ao, cap, hv, _⟩ := h
  cases hv
  rfl
def GotAt (TL : List PLine) (w : World) (x y : Value) (w' : World) : Prop := ∃ a n c ls', x = .slice a n c ∧ y = .bool true ∧ (ls'.map LAt.plain = TL ∧ LinesIn w' (.slice a n c) ls' ∧ LinesSmall ls') ∧ Below w.heap.size w w'
/-- A sheet that a call hands back. -/
def ShGot (P : List PBlock) (w : World) (e : Ending) (w' : World) : Prop := ∃ a n c bs', e = .returned (.agg #[.slice a n c]) ∧ (bs'.map BAt.plain = P ∧ BlocksIn w' (.slice a n c) bs' ∧ BlocksSmall bs') ∧ Below w.heap.size w w'
theorem shGot_of {P : List PBlock} {w : World} {e : Ending} {w' : World} (h : ∃ v' bs', e = .returned (.agg #[v']) ∧ bs'.map BAt.plain = P ∧ BlocksOwn w.heap.size w' v' bs' ∧ Below w.heap.size w w') (hs : ∀ bs' : List BAt, bs'.map BAt.plain = P → BlocksSmall bs') : ShGot P w e w' := by
  obtain ⟨v', bs', rfl, hp, ho, bb⟩ := h
  obtain ⟨a, c, rfl, _⟩ := own_form ho.row
  exact ⟨a, _, c, bs', rfl, ⟨hp, ho.bin, hs bs' hp⟩, bb⟩
theorem implFill_s {v : Value} {bs : List BAt} {w : World} (hin : BlocksIn w v bs) (hsm : BlocksSmall bs) (hst : StdAt w) : Calls Tryz.prog 15 #[.agg #[v]] w fun e w' => ShGot (fillS (bs.map BAt.plain)) w e w' := (implFill_any hin hsm hst).mono fun _ _ h => shGot_of h (fun _ he => fillS_small hsm he)
theorem specFill_s {v : Value} {bs : List BAt} {w : World} (hin : BlocksIn w v bs) (hsm : BlocksSmall bs) : Calls Tryz.prog 27 #[.agg #[v]] w fun e w' => ShGot (fillS (bs.map BAt.plain)) w e w' := (specFill_any hin hsm).mono fun _ _ h => shGot_of h (fun _ he => fillS_small hsm he)
theorem implTrim_s {v : Value} {bs : List BAt} {w : World} (hin : BlocksIn w v bs) (hsm : BlocksSmall bs) (hst : StdAt w) : Calls Tryz.prog 16 #[.agg #[v]] w fun e w' => ShGot (trimS (bs.map BAt.plain)) w e w' := (implTrim_any hin hsm hst).mono fun _ _ h => shGot_of h (fun _ he => trimS_small hsm he)
theorem specTrim_s {v : Value} {bs : List BAt} {w : World} (hin : BlocksIn w v bs) (hsm : BlocksSmall bs) : Calls Tryz.prog 28 #[.agg #[v]] w fun e w' => ShGot (trimS (bs.map BAt.plain)) w e w' := (specTrim_any hin hsm).mono fun _ _ h => shGot_of h (fun _ he => trimS_small hsm he)
/-- Lines that a call hands back, and whether there are any. -/
def LsGot (G : Bool × List PLine) (w : World) (e : Ending) (w' : World) : Prop := ∃ a n c ls', e = .returned (.tuple #[.slice a n c, .bool G.1]) ∧ (ls'.map LAt.plain = G.2 ∧ LinesIn w' (.slice a n c) ls' ∧ LinesSmall ls') ∧ Below w.heap.size w w'
theorem implGet_s {v : Value} {bs : List BAt} (kind name key : ByteArray) {w : World} (hin : BlocksIn w v bs) (hsm : BlocksSmall bs) (hst : StdAt w) : Calls Tryz.prog 30 #[.agg #[v], .string kind, .string name, .string key] w fun e w' => LsGot (getS (bs.map BAt.plain) kind name key) w e w' := by
  refine (implGet_any kind name key hin hsm hst).mono ?_
  rintro e w' ⟨v', ls', bl, rfl, hg, ho, hs, bb⟩
  obtain ⟨a, c, rfl, _⟩ := own_form ho.row
  rw [← hg]
  exact ⟨a, _, c, ls', rfl, ⟨rfl, ho.lin, hs⟩, bb⟩
theorem specGet_s {v : Value} {bs : List BAt} (kind name key : ByteArray) {w : World} (hin : BlocksIn w v bs) (hsm : BlocksSmall bs) : Calls Tryz.prog 33 #[.agg #[v], .string kind, .string name, .string key] w fun e w' => LsGot (getS (bs.map BAt.plain) kind name key) w e w' := by
  refine (specGet_any kind name key hin hsm).mono ?_
  rintro e w' ⟨v', ls', bl, rfl, hg, ho, hs, bb⟩
  obtain ⟨a, c, rfl, _⟩ := own_form ho.row
  rw [← hg]
  exact ⟨a, _, c, ls', rfl, ⟨rfl, ho.lin, hs⟩, bb⟩
/-- Two sheets that are one. -/
theorem wSheet_t {va vb : Value} {xs ys : List BAt} {w : World} (ha : BlocksIn w va xs) (hb : BlocksIn w vb ys) (hs : BlocksSmall xs) (he : xs.map BAt.plain = ys.map BAt.plain) : Calls Tryz.prog 12 #[.agg #[va], .agg #[vb]] w fun e w' => e = .returned (.bool true) ∧ Below w.heap.size w w' := by
  have := wSheet_g ha hb hs
  rw [eqB_true he] at this
  exact this
theorem wLines_t {va vb : Value} {xs ys : List LAt} {w : World} (ha : LinesIn w va xs) (hb : LinesIn w vb ys) (hs : LinesSmall xs) (he : xs.map LAt.plain = ys.map LAt.plain) : Calls Tryz.prog 31 #[va, vb] w fun e w' => e = .returned (.bool true) ∧ Below w.heap.size w w' := by
  have := wLines_g ha hb hs
  rw [eqB_true he] at this
  exact this
/-- A sheet, filled and trimmed, each in its box. -/
structure FS (P : List PBlock) (S F T : Nat) (vs vf vt : Value) (bs bf bt : List BAt) (W : World) : Prop where
  cs : W.cell? ⟨S, 0, none⟩ = some vs
  cf : W.cell? ⟨F, 0, none⟩ = some vf
  ct : W.cell? ⟨T, 0, none⟩ = some vt
  ns : BlocksIn W vs bs
  nf : BlocksIn W vf bf
  nt : BlocksIn W vt bt
  ps : bs.map BAt.plain = P
  pf : bf.map BAt.plain = fillS P
  pt : bt.map BAt.plain = trimS P
  ss : BlocksSmall bs
  sf : BlocksSmall bf
  st : BlocksSmall bt
  std : StdAt W
theorem FS.below {P : List PBlock} {S F T : Nat} {vs vf vt : Value} {bs bf bt : List BAt} {W W' : World} (h : FS P S F T vs vf vt bs bf bt W) (hb : Below W.heap.size W W') : FS P S F T vs vf vt bs bf bt W' :=
  ⟨(hb.cell (World.block_lt_of_cell? W _ h.cs)).trans h.cs, (hb.cell (World.block_lt_of_cell? W _ h.cf)).trans h.cf, (hb.cell (World.block_lt_of_cell? W _ h.ct)).trans h.ct, h.ns.below hb, h.nf.below hb, h.nt.below hb, h.ps, h.pf, h.pt, h.ss, h.sf, h.st, h.std.below hb⟩
def DrawnOk (w : World) (e : Ending) (w' : World) : Prop := ∃ a n c bs, e = .returned (.agg #[.slice a n c]) ∧ (BlocksIn w' (.slice a n c) bs ∧ BlocksSmall bs) ∧ Below w.heap.size w w'
def DrawnGet (w : World) (e : Ending) (w' : World) : Prop := ∃ a n c bs kind name key, e = .returned (.tuple #[.agg #[.slice a n c], .string kind, .string name, .string key]) ∧ (BlocksIn w' (.slice a n c) bs ∧ BlocksSmall bs) ∧ Below w.heap.size w w'
set_option maxHeartbeats 16000000 in
set_option maxRecDepth 100000 in
theorem fnFill_any (a : Option Addr) (len cap : Nat) (w : World) (hlen : len ≤ 9223372036854775807) (hst : StdAt w) (HDF : len ≤ 1048576 → Calls Tryz.prog 26 #[.slice a len cap] w fun e w' => DrawnOk w e w') (HDG : len ≤ 1048576 → ∀ W, Below w.heap.size w W → Calls Tryz.prog 32 #[.slice a len cap] W fun e w' => DrawnGet W e w') :
    Calls Tryz.prog 6 #[.slice a len cap] w fun e w' => e = .returned (.bool true) ∧ Below w.heap.size w w' := by
  by_cases hs : len ≤ 1048576
  · have hs' : ¬ (1048576 : Int) < (len : Int) := by omega
    have HD := HDF hs
    have HG := HDG hs
    clear HDF HDG
    go_enter Tryz.func6, Tryz.ntmps6
    go_wp2_with (go_at_call 26; refine HD.mono ?_)
    rintro e w1 ⟨sa, sn, sc, bs, rfl, ⟨hin, hsm⟩, b1⟩
    clear HD
    have x1 := (Below.refl w1.heap.size w1).alloc (Nat.le_refl _) (.cells #[.slice sa sn sc] 25)
    have c1 := one_box (w := w1) (cs := #[.slice sa sn sc]) (T := 25) 0
    simp only [List.getElem?_toArray, List.getElem?_cons_zero] at c1
    have g1 := b1.trans (x1.mono b1.size)
    have st1 := hst.below g1
    have in1 := hin.below x1
    have HF := implFill_s in1 hsm st1
    obtain ⟨P, eP⟩ : ∃ P, bs.map BAt.plain = P := ⟨_, rfl⟩
    rw [eP] at HF
    have l1 := World.block_lt_of_cell? _ _ c1
    have IN1 := hid_in in1
    have SM1 := hid_in hsm
    have EP := hid_in eP
    have HST := hid_in hst
    clear hin hsm in1 eP hst st1 x1
    generalize hW1 : w1.alloc (.cells #[.slice sa sn sc] 25) = W1 at *
    go_wp2_with (go_at_call 15; (try rw [hW1]); refine HF.mono ?_)
    rintro e w2 ⟨fa, fn, fc, bf, rfl, ⟨pf, nf, sf⟩, b2⟩
    have x2 := (Below.refl w2.heap.size w2).alloc (Nat.le_refl _) (.cells #[.slice fa fn fc] 25)
    have c2 := one_box (w := w2) (cs := #[.slice fa fn fc]) (T := 25) 0
    simp only [List.getElem?_toArray, List.getElem?_cons_zero] at c2
    have g2 := g1.trans ((b2.trans (x2.mono b2.size)).mono g1.size)
    have c12 := ((b2.trans (x2.mono b2.size)).cell l1).trans c1
    have IN2 := hid_in (IN1.out.below (b2.trans (x2.mono b2.size)))
    have NF2 := hid_in (nf.below x2)
    have HT := implTrim_s IN2.out SM1.out (HST.out.below g2)
    rw [EP.out] at HT
    have PF := hid_in pf
    have SF := hid_in sf
    have l2 := World.block_lt_of_cell? _ _ c2
    have l12 := World.block_lt_of_cell? _ _ c12
    clear HF IN1 c1 l1 b2 nf pf sf x2 g1 hW1
    generalize hW2 : w2.alloc (.cells #[.slice fa fn fc] 25) = W2 at *
    go_wp2_with (go_at_call 16; (try rw [hW2]); refine HT.mono ?_)
    rintro e w3 ⟨ta, tn, tc, bt, rfl, ⟨pt, nt, st⟩, b3⟩
    have x3 := (Below.refl w3.heap.size w3).alloc (Nat.le_refl _) (.cells #[.slice ta tn tc] 25)
    have c3 := one_box (w := w3) (cs := #[.slice ta tn tc]) (T := 25) 0
    simp only [List.getElem?_toArray, List.getElem?_cons_zero] at c3
    have bx3 := b3.trans (x3.mono b3.size)
    have g3 := g2.trans (bx3.mono g2.size)
    have HFS := hid_in (show FS P w1.heap.size w2.heap.size w3.heap.size (.slice sa sn sc) (.slice fa fn fc) (.slice ta tn tc) bs bf bt (w3.alloc (.cells #[.slice ta tn tc] 25)) from
      ⟨(bx3.cell l12).trans c12, (bx3.cell l2).trans c2, c3, IN2.out.below bx3, NF2.out.below bx3, nt.below x3, EP.out, PF.out, pt, SM1.out, SF.out, st, HST.out.below g3⟩)
    clear HT IN2 NF2 c12 c2 c3 l12 l2 b3 x3 bx3 g2 nt pt st PF SF SM1 EP hW2
    generalize hS : w1.heap.size = S at *
    generalize hF : w2.heap.size = F at *
    generalize hT : w3.heap.size = T at *
    generalize hW3 : w3.alloc (.cells #[.slice ta tn tc] 25) = W3 at *
    go_upto_region 6 with fail
    have HF3 := HFS.out
    have u1 := fun p : Gr W3 => gr_cell HF3.cs p
    have u2 := fun p : Gr W3 => gr_cell HF3.cf p
    have u3 := fun p : Gr W3 => gr_cell HF3.ct p
    have HSF : ∀ p : Gr W3, Calls Tryz.prog 27 #[.agg #[.slice sa sn sc]] p.u fun e w' => ShGot (fillS P) p.u e w' := fun p => by
      have := specFill_s (HF3.ns.below p.h) HF3.ss
      rw [HF3.ps] at this
      exact this
    have HSTr : ∀ p : Gr W3, Calls Tryz.prog 28 #[.agg #[.slice sa sn sc]] p.u fun e w' => ShGot (trimS P) p.u e w' := fun p => by
      have := specTrim_s (HF3.ns.below p.h) HF3.ss
      rw [HF3.ps] at this
      exact this
    have NFH := hid_in (show BlocksIn W3 (.slice fa fn fc) bf ∧ BlocksSmall bf ∧ bf.map BAt.plain = fillS P from ⟨HF3.nf, HF3.sf, HF3.pf⟩)
    have NTH := hid_in (show BlocksIn W3 (.slice ta tn tc) bt ∧ BlocksSmall bt ∧ bt.map BAt.plain = trimS P from ⟨HF3.nt, HF3.st, HF3.pt⟩)
    clear HF3 hS hF hT hW3
    go_cut [44] from 33 to 44 (fun c wx => c = .bool false ∧ Below W3.heap.size W3 wx)
    case first =>
      clear HG HFS HST b1 g3
      refine wp_region_upM 12 12 (by kernel_rfl) rfl ?_
      refine wpUp_mask [true, true, false, false, false, false, false, false, false, false, false, false] 10 rfl (by kernel_rfl) ?_
      simp only [maskL_t, maskL_f, maskL_n]
      iterate 2 (refine wpQuietU_step (fun K hK => ?_); go_simp; refine hK _ ?_; clear hK K)
      refine wpQuietU_nil ?_
      refine wpUp_branch (f := 9) (rs := [2]) (by kernel_rfl) (by simp) ?_
      rintro ⟨wp, bp⟩
      refine AllUp.cons rfl (by decide) (fun K hK => ?_) AllUp.nil
      go_simp
      go_wp2_with (go_at_call 27; refine (HSF ⟨wp, bp⟩).mono ?_; rintro e w7 ⟨a7, n7, c7, bs7, rfl, h7, b7⟩)
      refine hK.out _ _ b7 ?_
      clear hK K
      have B7 := bp.trans (b7.mono bp.size)
      have HW7 : ∀ p : Gr w7, Calls Tryz.prog 12 #[.agg #[.slice fa fn fc], .agg #[.slice a7 n7 c7]] p.u fun e w' => e = .returned (.bool true) ∧ Below p.u.heap.size p.u w' := fun p => wSheet_t ((NFH.out.1.below B7).below p.h) (h7.2.1.below p.h) NFH.out.2.1 (NFH.out.2.2.trans h7.1.symm)
      have t1 : ∀ p : Gr w7, p.u.cell? ⟨S, 0, none⟩ = some (.slice sa sn sc) := fun p => u1 ⟨p.u, B7.trans (p.h.mono B7.size)⟩
      have t3 : ∀ p : Gr w7, p.u.cell? ⟨T, 0, none⟩ = some (.slice ta tn tc) := fun p => u3 ⟨p.u, B7.trans (p.h.mono B7.size)⟩
      clear h7
      refine wpUp_mask [false, false, false, true, true, true, true, true, false, false, false, false] 4 rfl (by kernel_rfl) ?_
      simp only [maskL_t, maskL_f, maskL_n]
      refine wpQuietU_step (fun K hK => ?_)
      go_simp
      apply Exists.intro
      refine ⟨fun _ => ?_, hK _ ?_⟩
      go_at_call 12
      exact HW7 _
      clear hK K
      iterate 4 (refine wpQuietU_step (fun K hK => ?_); go_simp; refine hK _ ?_; clear hK K)
      refine wpQuietU_nil ?_
      refine wpUp_branch (f := 3) (rs := [8]) (by kernel_rfl) (by simp) ?_
      rintro ⟨wq, bq⟩
      have Bq := B7.trans (bq.mono B7.size)
      refine AllUp.cons rfl (by decide) (fun K hK => ?_) AllUp.nil
      go_simp
      go_wp2_with (go_at_call 28; refine (HSTr ⟨wq, Bq⟩).mono ?_; rintro e w8 ⟨a8, n8, c8, bs8, rfl, h8, b8⟩)
      refine hK.out _ _ b8 ?_
      clear hK K
      have B8 := Bq.trans (b8.mono Bq.size)
      have HW8 : ∀ p : Gr w8, Calls Tryz.prog 12 #[.agg #[.slice ta tn tc], .agg #[.slice a8 n8 c8]] p.u fun e w' => e = .returned (.bool true) ∧ Below p.u.heap.size p.u w' := fun p => wSheet_t ((NTH.out.1.below B8).below p.h) (h8.2.1.below p.h) NTH.out.2.1 (NTH.out.2.2.trans h8.1.symm)
      clear h8
      refine wpUp_mask [false, false, false, false, false, false, false, false, false, true, true, true] 0 rfl (by kernel_rfl) ?_
      simp only [maskL_t, maskL_f, maskL_n]
      refine wpQuietU_step (fun K hK => ?_)
      go_simp
      apply Exists.intro
      refine ⟨fun _ => ?_, hK _ ?_⟩
      go_at_call 12
      exact HW8 _
      clear hK K
      iterate 2 (refine wpQuietU_step (fun K hK => ?_); go_simp; refine hK _ ?_; clear hK K)
      refine wpQuietU_nil ?_
      refine wpUp_done (by kernel_rfl) ?_ 0
      rintro ⟨wz, bz⟩
      refine NoPanic.normal ?_
      go_wp2_with fail
      go_meet
      exact ⟨rfl, B8.trans (bz.mono B8.size)⟩
    case rest =>
      obtain ⟨W4, hW4⟩ : ∃ W4, W4 = wc := ⟨_, rfl⟩
      subst hW4
      obtain ⟨rfl, b4⟩ := hcut
      have HF4 := HFS.out.below b4
      have g4 := g3.trans (b4.mono g3.size)
      clear HSF HSTr NFH NTH u1 u2 u3
      have HV := specValid_any HF4.ns HF4.ss
      rw [HF4.ps] at HV
      have c4 := HF4.cs
      have HF4H := hid_in HF4
      clear HF4 HFS
      go_wp2_with (go_at_call 14; refine HV.mono ?_)
      first | rintro e W5 rfl b5 | rintro e W5 ⟨rfl, b5⟩
      have HF5 := HF4H.out.below b5
      have g5 := g4.trans (b5.mono g4.size)
      clear HV HF4H c4
      cases hok : sheetB P
      · have f0 : fn = 0 := slice_len HF5.nf.1 (by
          have := congrArg List.length HF5.pf
          unfold fillS at this
          rw [hok] at this
          simpa using this)
        have t0 : tn = 0 := slice_len HF5.nt.1 (by
          have := congrArg List.length HF5.pt
          unfold trimS at this
          rw [hok] at this
          simpa using this)
        subst f0 t0
        have c1 := HF5.cf
        have c2 := HF5.ct
        clear HF5 hok
        go_wp2
        go_ret
        exact ⟨rfl, g5⟩
      · have hOK := hid_in (sheetB_iff.1 hok)
        clear hok
        have HFH := hid_in HF5
        have u2 := fun p : Gr W5 => gr_cell HF5.cf p
        have u3 := fun p : Gr W5 => gr_cell HF5.ct p
        clear HF5
        have A1 : ∀ p : Gr W5, Calls Tryz.prog 15 #[.agg #[.slice fa fn fc]] p.u fun e w' => ShGot (fillS P) p.u e w' := fun p => by
          have h := HFH.out.below p.h
          have := implFill_s h.nf h.sf h.std
          rw [h.pf, fillS_fill hOK.out] at this
          exact this
        have A2 : ∀ p : Gr W5, Calls Tryz.prog 15 #[.agg #[.slice ta tn tc]] p.u fun e w' => ShGot (fillS P) p.u e w' := fun p => by
          have h := HFH.out.below p.h
          have := implFill_s h.nt h.st h.std
          rw [h.pt, fillS_trim hOK.out] at this
          exact this
        have A3 : ∀ p : Gr W5, Calls Tryz.prog 16 #[.agg #[.slice fa fn fc]] p.u fun e w' => ShGot (trimS P) p.u e w' := fun p => by
          have h := HFH.out.below p.h
          have := implTrim_s h.nf h.sf h.std
          rw [h.pf, trimS_fill hOK.out] at this
          exact this
        have A4 : ∀ p : Gr W5, Calls Tryz.prog 19 #[.agg #[.slice fa fn fc]] p.u fun e w' => e = .returned (.bool true) ∧ Below p.u.heap.size p.u w' := fun p => by
          have h := HFH.out.below p.h
          have := implValid_any h.nf h.sf h.std
          rw [h.pf, fillS_of hOK.out, sheetB_iff.2 (fillS_ok hOK.out)] at this
          exact this
        have A5 : ∀ p : Gr W5, Calls Tryz.prog 19 #[.agg #[.slice ta tn tc]] p.u fun e w' => e = .returned (.bool true) ∧ Below p.u.heap.size p.u w' := fun p => by
          have h := HFH.out.below p.h
          have := implValid_any h.nt h.st h.std
          rw [h.pt, trimS_of hOK.out, sheetB_iff.2 (trimS_ok hOK.out)] at this
          exact this
        go_upto_region 10 with fail
        go_cut [84] from 56 to 84 (fun c wx => c = .bool false ∧ Below W5.heap.size W5 wx)
        case first =>
          clear HG HST hOK b1 g3 g4 g5
          refine wp_region_upM 29 29 (by kernel_rfl) rfl ?_
          refine wpUp_mask [true, false, true, false, false, false, false, false, false, false, false, false, false, false, false, false, false, false, false, false, false, false, false, false, false, false, false, false, false] 27 rfl (by kernel_rfl) ?_
          simp only [maskL_t, maskL_f, maskL_n]
          iterate 2 (refine wpQuietU_step (fun K hK => ?_); go_simp; refine hK _ ?_; clear hK K)
          refine wpQuietU_nil ?_
          refine wpUp_branch (f := 26) (rs := [1]) (by kernel_rfl) (by simp) ?_
          rintro ⟨wp, bp⟩
          refine AllUp.cons rfl (by decide) (fun K hK => ?_) AllUp.nil
          go_simp
          go_wp2_with (go_at_call 15; refine (A1 ⟨wp, bp⟩).mono ?_; rintro e w7 ⟨a7, n7, c7, bs7, rfl, h7, b7⟩)
          refine hK.out _ _ b7 ?_
          clear hK K A1
          have B7 := bp.trans (b7.mono bp.size)
          have HW7 : ∀ p : Gr w7, Calls Tryz.prog 12 #[.agg #[.slice a7 n7 c7], .agg #[.slice fa fn fc]] p.u fun e w' => e = .returned (.bool true) ∧ Below p.u.heap.size p.u w' := fun p => wSheet_t (h7.2.1.below p.h) ((HFH.out.nf.below B7).below p.h) h7.2.2 (h7.1.trans HFH.out.pf.symm)
          have t2 : ∀ p : Gr w7, p.u.cell? ⟨F, 0, none⟩ = some (.slice fa fn fc) := fun p => u2 ⟨p.u, B7.trans (p.h.mono B7.size)⟩
          have t3 : ∀ p : Gr w7, p.u.cell? ⟨T, 0, none⟩ = some (.slice ta tn tc) := fun p => u3 ⟨p.u, B7.trans (p.h.mono B7.size)⟩
          clear h7
          refine wpUp_mask [false, false, false, true, true, true, true, false, true, false, false, false, false, false, false, false, false, false, false, false, false, false, false, false, false, false, false, false, false] 21 rfl (by kernel_rfl) ?_
          simp only [maskL_t, maskL_f, maskL_n]
          refine wpQuietU_step (fun K hK => ?_)
          go_simp
          apply Exists.intro
          refine ⟨fun _ => ?_, hK _ ?_⟩
          go_at_call 12
          exact HW7 _
          clear hK K
          iterate 4 (refine wpQuietU_step (fun K hK => ?_); go_simp; refine hK _ ?_; clear hK K)
          refine wpQuietU_nil ?_
          clear HW7
          refine wpUp_branch (f := 20) (rs := [7]) (by kernel_rfl) (by simp) ?_
          rintro ⟨wq, bq⟩
          have Bq := B7.trans (bq.mono B7.size)
          refine AllUp.cons rfl (by decide) (fun K hK => ?_) AllUp.nil
          go_simp
          go_wp2_with (go_at_call 15; refine (A2 ⟨wq, Bq⟩).mono ?_; rintro e w8 ⟨a8, n8, c8, bs8, rfl, h8, b8⟩)
          refine hK.out _ _ b8 ?_
          clear hK K A2 t2 t3
          have B8 := Bq.trans (b8.mono Bq.size)
          have HW8 : ∀ p : Gr w8, Calls Tryz.prog 12 #[.agg #[.slice a8 n8 c8], .agg #[.slice fa fn fc]] p.u fun e w' => e = .returned (.bool true) ∧ Below p.u.heap.size p.u w' := fun p => wSheet_t (h8.2.1.below p.h) ((HFH.out.nf.below B8).below p.h) h8.2.2 (h8.1.trans HFH.out.pf.symm)
          have t2 : ∀ p : Gr w8, p.u.cell? ⟨F, 0, none⟩ = some (.slice fa fn fc) := fun p => u2 ⟨p.u, B8.trans (p.h.mono B8.size)⟩
          have t3 : ∀ p : Gr w8, p.u.cell? ⟨T, 0, none⟩ = some (.slice ta tn tc) := fun p => u3 ⟨p.u, B8.trans (p.h.mono B8.size)⟩
          clear h8
          refine wpUp_mask [false, false, false, false, false, false, false, false, false, true, true, true, true, true, false, true, false, false, false, false, false, false, false, false, false, false, false, false, false] 14 rfl (by kernel_rfl) ?_
          simp only [maskL_t, maskL_f, maskL_n]
          refine wpQuietU_step (fun K hK => ?_)
          go_simp
          apply Exists.intro
          refine ⟨fun _ => ?_, hK _ ?_⟩
          go_at_call 12
          exact HW8 _
          clear hK K
          iterate 5 (refine wpQuietU_step (fun K hK => ?_); go_simp; refine hK _ ?_; clear hK K)
          refine wpQuietU_nil ?_
          clear HW8
          refine wpUp_branch (f := 13) (rs := [14]) (by kernel_rfl) (by simp) ?_
          rintro ⟨wr, br⟩
          have Br := B8.trans (br.mono B8.size)
          refine AllUp.cons rfl (by decide) (fun K hK => ?_) AllUp.nil
          go_simp
          go_wp2_with (go_at_call 16; refine (A3 ⟨wr, Br⟩).mono ?_; rintro e w9 ⟨a9, n9, c9, bs9, rfl, h9, b9⟩)
          refine hK.out _ _ b9 ?_
          clear hK K A3 t2 t3
          have B9 := Br.trans (b9.mono Br.size)
          have HW9 : ∀ p : Gr w9, Calls Tryz.prog 12 #[.agg #[.slice a9 n9 c9], .agg #[.slice ta tn tc]] p.u fun e w' => e = .returned (.bool true) ∧ Below p.u.heap.size p.u w' := fun p => wSheet_t (h9.2.1.below p.h) ((HFH.out.nt.below B9).below p.h) h9.2.2 (h9.1.trans HFH.out.pt.symm)
          have t2 : ∀ p : Gr w9, p.u.cell? ⟨F, 0, none⟩ = some (.slice fa fn fc) := fun p => u2 ⟨p.u, B9.trans (p.h.mono B9.size)⟩
          have t3 : ∀ p : Gr w9, p.u.cell? ⟨T, 0, none⟩ = some (.slice ta tn tc) := fun p => u3 ⟨p.u, B9.trans (p.h.mono B9.size)⟩
          have V4 : ∀ p : Gr w9, Calls Tryz.prog 19 #[.agg #[.slice fa fn fc]] p.u fun e w' => e = .returned (.bool true) ∧ Below p.u.heap.size p.u w' := fun p => A4 ⟨p.u, B9.trans (p.h.mono B9.size)⟩
          have V5 : ∀ p : Gr w9, Calls Tryz.prog 19 #[.agg #[.slice ta tn tc]] p.u fun e w' => e = .returned (.bool true) ∧ Below p.u.heap.size p.u w' := fun p => A5 ⟨p.u, B9.trans (p.h.mono B9.size)⟩
          clear h9 A4 A5
          refine wpUp_mask [false, false, false, false, false, false, false, false, false, false, false, false, false, false, false, false, true, true, true, true, true, true, true, true, true, true, true, true, true] 0 rfl (by kernel_rfl) ?_
          simp only [maskL_t, maskL_f, maskL_n]
          refine wpQuietU_step (fun K hK => ?_)
          go_simp
          apply Exists.intro
          refine ⟨fun _ => ?_, hK _ ?_⟩
          go_at_call 12
          exact HW9 _
          clear hK K
          iterate 4 (refine wpQuietU_step (fun K hK => ?_); go_simp; refine hK _ ?_; clear hK K)
          refine wpQuietU_step (fun K hK => ?_)
          go_simp
          apply Exists.intro
          refine ⟨fun _ => ?_, hK _ ?_⟩
          go_at_call 19
          exact V4 _
          clear hK K
          iterate 4 (refine wpQuietU_step (fun K hK => ?_); go_simp; refine hK _ ?_; clear hK K)
          refine wpQuietU_step (fun K hK => ?_)
          go_simp
          apply Exists.intro
          refine ⟨fun _ => ?_, hK _ ?_⟩
          go_at_call 19
          exact V5 _
          clear hK K
          iterate 2 (refine wpQuietU_step (fun K hK => ?_); go_simp; refine hK _ ?_; clear hK K)
          refine wpQuietU_nil ?_
          refine wpUp_done (by kernel_rfl) ?_ 0
          rintro ⟨wz, bz⟩
          refine NoPanic.normal ?_
          go_wp2_with fail
          go_meet
          exact ⟨rfl, B9.trans (bz.mono B9.size)⟩
        case rest =>
          obtain ⟨W6, hW6⟩ : ∃ W6, W6 = wc := ⟨_, rfl⟩
          subst hW6
          obtain ⟨rfl, b6⟩ := hcut
          have HF6 := hid_in (HFH.out.below b6)
          have g6 := g5.trans (b6.mono g5.size)
          clear HFH A1 A2 A3 A4 A5 u2 u3 b5 b4
          have hsn := hid_in (slice_eq HF6.out.ns.1)
          have hsl : sn ≤ 1048576 := by rw [hsn.out]; exact HF6.out.ss.1
          go_wp2
          go_loopw [6] (fun i wr => ∃ j : Nat, j ≤ sn ∧ i = .int .i64 (j : Int) ∧ Below W6.heap.size W6 wr) (fun i _ => sn - (intOf i).toNat)
          case atStart => exact ⟨0, by omega, rfl, Below.refl _ _⟩
          case round =>
            obtain ⟨wo, hwo⟩ : ∃ wo, wo = wr := ⟨_, rfl⟩
            subst hwo
            obtain ⟨j, hj, rfl, bo⟩ := hrel
            have HFO := HF6.out.below bo
            have go6 := g6.trans (bo.mono g6.size)
            have cs := HFO.cs
            by_cases hjl : j < sn
            · obtain ⟨D, x, T', e0, hD⟩ := split1 bs j (by have := hsn.out; omega)
              have hns := HFO.ns
              have hns1 := hns.1
              rw [e0] at hns1
              obtain ⟨gs, off, rfl, x1, x2, x3⟩ := hns1.block
              rw [hD] at x1 x2 x3
              have hxm : x ∈ bs := by rw [e0]; simp
              obtain ⟨xa, xc, ex⟩ := (hns.2 x hxm).1.form
              rw [ex] at x3
              have hxP := hid_in (show x.plain ∈ P from by rw [← HFO.ps]; exact List.mem_map_of_mem hxm)
              have HFOH := hid_in HFO
              have i1 : (0 : Int) ≤ (j : Int) := by omega
              have i2 : (j : Int) < (sn : Int) := by omega
              clear hns hns1 e0 hD hxm ex HFO
              obtain ⟨xk, xn, xv, xl⟩ := x
              simp only at *
              generalize xl.length = nl at *
              have bx := (Below.refl wo.heap.size wo).alloc (Nat.le_refl _) (.cells #[.string xk, .string xn, .slice xa nl xc] 46)
              have kk := one_box (w := wo) (cs := #[.string xk, .string xn, .slice xa nl xc]) (T := 46)
              have k0 := kk 0
              have k1 := kk 1
              simp only [List.getElem?_toArray, List.getElem?_cons_zero, List.getElem?_cons_succ] at k0 k1
              have HFX := hid_in (HFOH.out.below bx)
              have gx := go6.trans (bx.mono go6.size)
              have HR := implRules_any xk (wo.alloc (.cells #[.string xk, .string xn, .slice xa nl xc] 46))
              have l0 := World.block_lt_of_cell? _ _ k0
              have l1 := World.block_lt_of_cell? _ _ k1
              clear kk HFOH
              generalize hWX : wo.alloc (.cells #[.string xk, .string xn, .slice xa nl xc] 46) = WX at *
              go_wp2_with (go_at_call 29; (try rw [hWX]); refine HR.mono ?_)
              rintro e w8 ⟨vr, L, rfl, hpl, hr, b8⟩
              have hLl := rulesOf_twelve xk hpl
              have c80 := (b8.cell l0).trans k0
              have c81 := (b8.cell l1).trans k1
              have HF8 := hid_in (HFX.out.below b8)
              have g8 := gx.trans (b8.mono gx.size)
              have hrin := hid_in hr.rin
              obtain ⟨ra, rc, rfl, _⟩ := own_form (show w8.ownsRow WX.heap.size 54 4 vr L.length (L.flatMap RAt.cells) from Mem.head hr)
              have HPL := hid_in hpl
              clear HR hr hpl HFX k0 k1 l0 l1 x1 x2 x3 hWX cs
              generalize hnr : L.length = nr at *
              have enr := hid_in hnr
              clear hnr
              generalize hbx : wo.heap.size = Bx at *
              have eBx := hid_in hbx
              clear hbx
              go_wp2
              go_loopw [9] (fun i wr => ∃ k : Nat, k ≤ nr ∧ i = .int .i64 (k : Int) ∧ Below w8.heap.size w8 wr) (fun i _ => nr - (intOf i).toNat)
              case atStart => exact ⟨0, by omega, rfl, Below.refl _ _⟩
              case round =>
                obtain ⟨wi, hwi⟩ : ∃ wi, wi = wr := ⟨_, rfl⟩
                subst hwi
                obtain ⟨k, hk, rfl, bi⟩ := hrel
                have HFI := hid_in (HF8.out.below bi)
                have gi := g8.trans (bi.mono g8.size)
                by_cases hkl : k < nr
                · obtain ⟨D1, r, T1, ey, hD1⟩ := split1 L k (by have := enr.out; omega)
                  have hri := hrin.out.1.below bi
                  rw [ey] at hri
                  obtain ⟨rg, roff, rfl, r0, r1, r2, r3⟩ := hri.rule
                  rw [hD1] at r0 r2
                  have hrm : r.plain ∈ rulesOf xk := by rw [← HPL.out, ey]; simp
                  obtain ⟨TL, q1, q2, q3, q4⟩ := get_three hOK.out hxP.out hrm
                  have d0 := (bi.cell (World.block_lt_of_cell? _ _ c80)).trans c80
                  have d1 := (bi.cell (World.block_lt_of_cell? _ _ c81)).trans c81
                  have HGT : ∀ W, Below wi.heap.size wi W → (Calls Tryz.prog 30 #[.agg #[.slice (some ⟨gs, off, none⟩) sn sc], .string xk, .string xn, .string r.key] W fun e w' => LsGot (true, TL) W e w') ∧ (Calls Tryz.prog 30 #[.agg #[.slice fa fn fc], .string xk, .string xn, .string r.key] W fun e w' => LsGot (true, TL) W e w') ∧ (Calls Tryz.prog 30 #[.agg #[.slice ta tn tc], .string xk, .string xn, .string r.key] W fun e w' => LsGot (true, TL) W e w') := fun W hW => by
                    have h := HFI.out.below hW
                    have a1 := implGet_s xk xn r.key h.ns h.ss h.std
                    have a2 := implGet_s xk xn r.key h.nf h.sf h.std
                    have a3 := implGet_s xk xn r.key h.nt h.st h.std
                    rw [h.ps] at a1
                    rw [h.pf] at a2
                    rw [h.pt] at a3
                    have q1' : getS P xk xn r.key = (true, TL) := q1
                    have q2' : getS (fillS P) xk xn r.key = (true, TL) := q2
                    have q3' : getS (trimS P) xk xn r.key = (true, TL) := q3
                    rw [q1'] at a1
                    rw [q2'] at a2
                    rw [q3'] at a3
                    exact ⟨a1, a2, a3⟩
                  have G1 : ∀ p : Gr wi, Calls Tryz.prog 30 #[.agg #[.slice (some ⟨gs, off, none⟩) sn sc], .string xk, .string xn, .string r.key] p.u fun e w' => LsGot (true, TL) p.u e w' := fun p => (HGT p.u p.h).1
                  have HGTH := hid_in HGT
                  have Q4 := hid_in (show r.many = false → TL.length = 1 from q4)
                  have v0 := fun p : Gr wi => gr_cell HFI.out.cs p
                  have v1 := fun p : Gr wi => gr_cell d0 p
                  have v2 := fun p : Gr wi => gr_cell d1 p
                  have v3 := fun p : Gr wi => gr_cell r0 p
                  have kl1 : (0 : Int) ≤ (k : Int) := by omega
                  have kl2 : (k : Int) < (nr : Int) := by omega
                  clear HGT q1 q2 q3 q4 hrm hri ey hD1 r1 r3
                  generalize hrk : r.key = rk at *
                  clear hrk
                  generalize hrmny : r.many = rm at *
                  clear hrmny
                  go_upto_region 20 with fail
                  go_cut [10, 11] from 106 to 119 (fun x y wx => GotAt TL wi x y wx)
                  case first =>
                    clear HFI
                    refine wp_region_upM 16 16 (by kernel_rfl) rfl ?_
                    refine wpUp_mask [true, true, true, true, true, true, true, true, true, true, false, false, false, false, false, false] 6 rfl (by kernel_rfl) ?_
                    simp only [maskL_t, maskL_f, maskL_n]
                    iterate 10 (refine wpQuietU_step (fun K hK => ?_); go_simp; refine hK _ ?_; clear hK K)
                    refine wpQuietU_nil ?_
                    refine wpUp_branch (f := 5) (rs := [10]) (by kernel_rfl) (by simp) ?_
                    rintro ⟨wp, bp⟩
                    refine AllUp.cons rfl (by decide) (fun K hK => ?_) AllUp.nil
                    go_simp
                    go_wp2_with (go_at_call 30; refine (G1 ⟨wp, bp⟩).mono ?_; rintro e w7 ⟨a7, n7, c7, ls7, rfl, h7, b7⟩)
                    refine hK.out _ _ b7 ?_
                    clear hK K
                    have B7 := bp.trans (b7.mono bp.size)
                    have H7 := hid_in h7
                    clear h7
                    refine wpUp_mask [false, false, false, false, false, false, false, false, false, false, false, true, true, true, true, true] 0 rfl (by kernel_rfl) ?_
                    simp only [maskL_t, maskL_f, maskL_n]
                    iterate 5 (refine wpQuietU_step (fun K hK => ?_); go_simp; refine hK _ ?_; clear hK K)
                    refine wpQuietU_nil ?_
                    refine wpUp_done (by kernel_rfl) ?_ 0
                    rintro ⟨wz, bz⟩
                    refine NoPanic.normal ?_
                    go_wp2_with fail
                    go_meet
                    exact ⟨a7, n7, c7, ls7, rfl, rfl, ⟨H7.out.1, H7.out.2.1.below bz, H7.out.2.2⟩, B7.trans (bz.mono B7.size)⟩
                  case rest =>
                    obtain ⟨wa, hwa⟩ : ∃ wa, wa = wc := ⟨_, rfl⟩
                    subst hwa
                    obtain ⟨xa1, xn1, xc1, xs1, rfl, rfl, hx1, ba⟩ := hcut
                    have HX1 := hid_in hx1
                    have HFA := hid_in (HFI.out.below ba)
                    have G2 : ∀ p : Gr wa, Calls Tryz.prog 30 #[.agg #[.slice fa fn fc], .string xk, .string xn, .string rk] p.u fun e w' => LsGot (true, TL) p.u e w' := fun p => (HGTH.out p.u (ba.trans (p.h.mono ba.size))).2.1
                    have da0 := (ba.cell (World.block_lt_of_cell? _ _ d0)).trans d0
                    have da1 := (ba.cell (World.block_lt_of_cell? _ _ d1)).trans d1
                    have ra0 := (ba.cell (World.block_lt_of_cell? _ _ r0)).trans r0
                    have ra2 := (ba.cell (World.block_lt_of_cell? _ _ r2)).trans r2
                    have HFI := HFA
                    clear HFA G1 v0 v1 v2 v3 hx1 d0 d1 r0 r2
                    have v0 := fun p : Gr wa => gr_cell HFI.out.cf p
                    have v1 := fun p : Gr wa => gr_cell da0 p
                    have v2 := fun p : Gr wa => gr_cell da1 p
                    have v3 := fun p : Gr wa => gr_cell ra0 p
                    go_upto_region 21 with fail
                    go_cut [12, 13] from 120 to 133 (fun x y wx => GotAt TL wa x y wx)
                    case first =>
                      clear HFI
                      refine wp_region_upM 16 16 (by kernel_rfl) rfl ?_
                      refine wpUp_mask [true, true, true, true, true, true, true, true, true, true, false, false, false, false, false, false] 6 rfl (by kernel_rfl) ?_
                      simp only [maskL_t, maskL_f, maskL_n]
                      iterate 10 (refine wpQuietU_step (fun K hK => ?_); go_simp; refine hK _ ?_; clear hK K)
                      refine wpQuietU_nil ?_
                      refine wpUp_branch (f := 5) (rs := [10]) (by kernel_rfl) (by simp) ?_
                      rintro ⟨wp, bp⟩
                      refine AllUp.cons rfl (by decide) (fun K hK => ?_) AllUp.nil
                      go_simp
                      go_wp2_with (go_at_call 30; refine (G2 ⟨wp, bp⟩).mono ?_; rintro e w7 ⟨a7, n7, c7, ls7, rfl, h7, b7⟩)
                      refine hK.out _ _ b7 ?_
                      clear hK K
                      have B7 := bp.trans (b7.mono bp.size)
                      have H7 := hid_in h7
                      clear h7
                      refine wpUp_mask [false, false, false, false, false, false, false, false, false, false, false, true, true, true, true, true] 0 rfl (by kernel_rfl) ?_
                      simp only [maskL_t, maskL_f, maskL_n]
                      iterate 5 (refine wpQuietU_step (fun K hK => ?_); go_simp; refine hK _ ?_; clear hK K)
                      refine wpQuietU_nil ?_
                      refine wpUp_done (by kernel_rfl) ?_ 0
                      rintro ⟨wz, bz⟩
                      refine NoPanic.normal ?_
                      go_wp2_with fail
                      go_meet
                      exact ⟨a7, n7, c7, ls7, rfl, rfl, ⟨H7.out.1, H7.out.2.1.below bz, H7.out.2.2⟩, B7.trans (bz.mono B7.size)⟩
                    case rest =>
                      obtain ⟨wb, hwb⟩ : ∃ wb, wb = wc := ⟨_, rfl⟩
                      subst hwb
                      obtain ⟨xa2, xn2, xc2, xs2, rfl, rfl, hx2, bb⟩ := hcut
                      have HX2 := hid_in hx2
                      have bab := ba.trans (bb.mono ba.size)
                      have HFB := hid_in (HFI.out.below bb)
                      have G3 : ∀ p : Gr wb, Calls Tryz.prog 30 #[.agg #[.slice ta tn tc], .string xk, .string xn, .string rk] p.u fun e w' => LsGot (true, TL) p.u e w' := fun p => (HGTH.out p.u (bab.trans (p.h.mono bab.size))).2.2
                      have db0 := (bb.cell (World.block_lt_of_cell? _ _ da0)).trans da0
                      have db1 := (bb.cell (World.block_lt_of_cell? _ _ da1)).trans da1
                      have rb0 := (bb.cell (World.block_lt_of_cell? _ _ ra0)).trans ra0
                      have rb2 := (bb.cell (World.block_lt_of_cell? _ _ ra2)).trans ra2
                      have HFI := HFB
                      clear HFB G2 v0 v1 v2 v3 hx2 da0 da1 ra0 ra2
                      have v0 := fun p : Gr wb => gr_cell HFI.out.ct p
                      have v1 := fun p : Gr wb => gr_cell db0 p
                      have v2 := fun p : Gr wb => gr_cell db1 p
                      have v3 := fun p : Gr wb => gr_cell rb0 p
                      go_upto_region 22 with fail
                      go_cut [14, 15] from 134 to 147 (fun x y wx => GotAt TL wb x y wx)
                      case first =>
                        clear HFI
                        refine wp_region_upM 16 16 (by kernel_rfl) rfl ?_
                        refine wpUp_mask [true, true, true, true, true, true, true, true, true, true, false, false, false, false, false, false] 6 rfl (by kernel_rfl) ?_
                        simp only [maskL_t, maskL_f, maskL_n]
                        iterate 10 (refine wpQuietU_step (fun K hK => ?_); go_simp; refine hK _ ?_; clear hK K)
                        refine wpQuietU_nil ?_
                        refine wpUp_branch (f := 5) (rs := [10]) (by kernel_rfl) (by simp) ?_
                        rintro ⟨wp, bp⟩
                        refine AllUp.cons rfl (by decide) (fun K hK => ?_) AllUp.nil
                        go_simp
                        go_wp2_with (go_at_call 30; refine (G3 ⟨wp, bp⟩).mono ?_; rintro e w7 ⟨a7, n7, c7, ls7, rfl, h7, b7⟩)
                        refine hK.out _ _ b7 ?_
                        clear hK K
                        have B7 := bp.trans (b7.mono bp.size)
                        have H7 := hid_in h7
                        clear h7
                        refine wpUp_mask [false, false, false, false, false, false, false, false, false, false, false, true, true, true, true, true] 0 rfl (by kernel_rfl) ?_
                        simp only [maskL_t, maskL_f, maskL_n]
                        iterate 5 (refine wpQuietU_step (fun K hK => ?_); go_simp; refine hK _ ?_; clear hK K)
                        refine wpQuietU_nil ?_
                        refine wpUp_done (by kernel_rfl) ?_ 0
                        rintro ⟨wz, bz⟩
                        refine NoPanic.normal ?_
                        go_wp2_with fail
                        go_meet
                        exact ⟨a7, n7, c7, ls7, rfl, rfl, ⟨H7.out.1, H7.out.2.1.below bz, H7.out.2.2⟩, B7.trans (bz.mono B7.size)⟩
                      case rest =>
                        obtain ⟨wd, hwd⟩ : ∃ wd, wd = wc := ⟨_, rfl⟩
                        subst hwd
                        obtain ⟨xa3, xn3, xc3, xs3, rfl, rfl, hx3, bd⟩ := hcut
                        have HX3 := hid_in hx3
                        have rd2 := (bd.cell (World.block_lt_of_cell? _ _ rb2)).trans rb2
                        have L1 := HX1.out.2.1.below (bb.trans (bd.mono bb.size))
                        have L2 := HX2.out.2.1.below bd
                        have HW1 := wLines_t L1 L2 HX1.out.2.2 (HX1.out.1.trans HX2.out.1.symm)
                        have HW2 := fun W (hW : Below wd.heap.size wd W) => wLines_t (L1.below hW) (HX3.out.2.1.below hW) HX1.out.2.2 (HX1.out.1.trans HX3.out.1.symm)
                        have hlen1 := hid_in (show rm = false → xn1 = 1 from fun h => by
                          have h1 := slice_eq L1.1
                          have h2 := congrArg List.length HX1.out.1
                          rw [List.length_map, Q4.out h] at h2
                          omega)
                        clear G3 v0 v1 v2 v3 hx3 db0 db1 rb0 rb2 L1 L2 HX1 HX2 HX3 HFI HGTH
                        go_wp2_with (go_at_call 31; refine HW1.mono ?_)
                        first | rintro e we rfl be | rintro e we ⟨rfl, be⟩
                        have re2 := (be.cell (World.block_lt_of_cell? _ _ rd2)).trans rd2
                        clear HW1 rd2
                        go_wp2_with (go_at_call 31; refine (HW2 _ be).mono ?_)
                        first | rintro e wf rfl bf' | rintro e wf ⟨rfl, bf'⟩
                        have rf2 := (bf'.cell (World.block_lt_of_cell? _ _ re2)).trans re2
                        have BF := bi.trans ((((bab.trans (bd.mono bab.size)).trans (be.mono (Nat.le_trans bab.size bd.size))).trans (bf'.mono (Nat.le_trans (Nat.le_trans bab.size bd.size) be.size))).mono bi.size)
                        clear HW2 re2
                        cases rm
                        · have hx1 := hlen1.out rfl
                          subst hx1
                          go_wp2
                          go_roundw
                          case rel => exact ⟨k + 1, by omega, by go_num, BF⟩
                          case measure => simp [intOf]; omega
                        · go_wp2
                          go_roundw
                          case rel => exact ⟨k + 1, by omega, by go_num, BF⟩
                          case measure => simp [intOf]; omega
                · obtain rfl : k = nr := by omega
                  have hkk : ¬ ((k : Int) < (k : Int)) := by omega
                  have bx' : Below wo.heap.size wo WX := by rw [eBx.out]; exact bx
                  have BO := bo.trans (((bx'.trans (b8.mono bx'.size)).trans (bi.mono (Nat.le_trans bx'.size b8.size))).mono bo.size)
                  clear HFI HF8 hrin HPL hxP c80 c81
                  go_wp2
                  go_roundw
                  case rel => exact ⟨j + 1, by omega, by go_num, BO⟩
                  case measure => simp [intOf]; omega
            · obtain rfl : j = sn := by omega
              have hjj : ¬ ((j : Int) < (j : Int)) := by omega
              have HD := HG wo go6
              have HSD := hid_in HFO.std
              clear HFO HG HF6 hOK
              go_wp2_with (go_at_call 32; refine HD.mono ?_)
              rintro e wA ⟨oa, on, oc, os, kd, nm, ky, rfl, ⟨hoin, hosm⟩, bA⟩
              have xA := (Below.refl wA.heap.size wA).alloc (Nat.le_refl _) (.cells #[.slice oa on oc] 25)
              have cA := one_box (w := wA) (cs := #[.slice oa on oc]) (T := 25) 0
              simp only [List.getElem?_toArray, List.getElem?_cons_zero] at cA
              have gA := go6.trans ((bA.trans (xA.mono bA.size)).mono go6.size)
              have HI := implGet_s kd nm ky (hoin.below xA) hosm ((HSD.out.below bA).below xA)
              have HSG := fun W (hW : Below (wA.alloc (.cells #[.slice oa on oc] 25)).heap.size (wA.alloc (.cells #[.slice oa on oc] 25)) W) => specGet_s kd nm ky ((hoin.below xA).below hW) hosm
              generalize getS (os.map BAt.plain) kd nm ky = GG at *
              obtain ⟨gb, gl⟩ := GG
              have lA := World.block_lt_of_cell? _ _ cA
              have HSGH := hid_in HSG
              clear HD hoin hosm HSD HSG cs
              generalize hWA : wA.alloc (.cells #[.slice oa on oc] 25) = WA at *
              go_wp2_with (go_at_call 30; (try rw [hWA]); refine HI.mono ?_)
              rintro e wB ⟨a1, n1, c1, ls1, rfl, h1, bB⟩
              have cB := (bB.cell lA).trans cA
              have H1 := hid_in h1
              have HS2 := HSGH.out wB bB
              clear HI h1 cA lA hWA HSGH
              go_wp2_with (go_at_call 33; refine HS2.mono ?_)
              rintro e wC ⟨a2, n2, c2, ls2, rfl, h2, bC⟩
              have HW := wLines_t (H1.out.2.1.below bC) h2.2.1 H1.out.2.2 (H1.out.1.trans h2.1.symm)
              have gC := gA.trans ((bB.trans (bC.mono bB.size)).mono gA.size)
              have hgb : (gb == gb) = true := by simp
              clear HS2 H1 h2 cB
              go_wp2_with (go_at_call 31; refine HW.mono ?_)
              first | rintro e wE rfl bE | rintro e wE ⟨rfl, bE⟩
              clear HW
              go_wp2
              go_ret
              exact ⟨rfl, gC.trans (bE.mono gC.size)⟩
  · have hs' : (1048576 : Int) < (len : Int) := by omega
    go_enter Tryz.func6, Tryz.ntmps6
    go_wp2
    go_ret
    exact ⟨rfl, Below.refl _ _⟩
end Go.Proofs.YtpdahhnjhggocaaGreatDoor
