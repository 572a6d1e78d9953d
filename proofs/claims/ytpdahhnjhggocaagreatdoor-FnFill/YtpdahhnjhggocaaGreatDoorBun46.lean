import Derived.Test.YtpdahhnjhggocaaGreatDoorBun45
namespace Go.Proofs.YtpdahhnjhggocaaGreatDoor
open Go.RowKit
theorem GtF.drawn {w : World} {a : Option Addr} {n c : Nat} {bs : List BAt} {W : World} (h : GtF w (.slice a n c) bs W) (hs : BlocksSmall bs) (kind name key : ByteArray) : DrawnGet w (.returned (.tuple #[.agg #[.slice a n c], .string kind, .string name, .string key])) W := ⟨a, n, c, bs, kind, name, key, rfl, ⟨h.2.2, hs⟩, h.1⟩
theorem GtS.outRow {w : World} {p S kk : Nat} {rv sv : Value} {bs : List BAt} {W : World} (h : GtS w p S rv sv bs kk W) : GtF w sv bs (W.setRow w.heap.size #[sv]) := by
  have gs := grown_setRow W w.heap.size #[sv]
  refine ⟨below_of_grown h.bw h.bw.size (Nat.le_refl _) gs, ?_, h.bin.far h.farr gs⟩
  have z : (W.setRow w.heap.size #[sv]).heap[w.heap.size]? = some (.cells #[sv] 25 (0, 0)) := setRow_heap _ _ _ _ _ _ h.res
  have := cell_of_block z 0
  simpa using this
set_option maxHeartbeats 8000000 in
set_option maxRecDepth 100000 in
theorem drawGet_any (a : Option Addr) (len cap : Nat) (w : World) (hc : Code w.heap.size w a len cap) : Calls Tryz.prog 32 #[.slice a len cap] w fun e w' => DrawnGet w e w' := by
  have b0 := (Below.refl w.heap.size w).alloc (Nat.le_refl _) (.cells #[.slice none 0 0] 25)
  have z1 := alloc_here w (.cells #[.slice none 0 0] 25)
  have s1 : (w.alloc (.cells #[.slice none 0 0] 25)).heap.size = w.heap.size + 1 := by simp
  have hc1 := hc.below b0 (Nat.le_refl _)
  generalize hw1 : w.alloc (.cells #[.slice none 0 0] 25) = w1 at *
  have HO := l1Open_any w.heap.size a len cap w1 (by omega) hc1.1 hc1.2.1 hc1.2.2.1 hc1.2.2.2
  rw [s1] at HO
  clear hc hc1
  go_enter Tryz.func32, Tryz.ntmps32
  go_wp2_with (go_at_call 42; (try rw [hw1]); refine HO.mono ?_)
  rintro e w2 ⟨rfl, h2, b2⟩
  have HA := l3Any_any _ _ 0 w2 h2 (by omega)
  have hz2 := b2.size
  have z2 := (b2.block w.heap.size (by omega)).trans z1
  have b02 := b0.trans (b2.mono (by omega))
  have hpl := h2.lt
  clear HO h2 hw1
  go_wp2_with (go_at_call 43; refine HA.mono ?_)
  rintro e w3 ⟨sa, n, sc, bs, k3, rfl, hk3, hr3, hg3, hin3, ⟨hs3, hl3⟩, hf3⟩
  have hnn := slice_eq hin3.1
  have bx := (Below.refl w3.heap.size w3).alloc (Nat.le_refl _) (.cells #[.slice sa n sc] 25)
  have xb := alloc_here w3 (.cells #[.slice sa n sc] 25)
  have hz3 := hg3.size
  have b03 := below_of_grown b02 (by omega) (by omega) hg3
  have z3 := (hg3.block w.heap.size (by omega) (by intro e; have := Option.some.inj e; omega)).trans z2
  have HG : GtS w (w.heap.size + 1) w3.heap.size (.slice none 0 0) (.slice sa n sc) bs k3 (w3.alloc (.cells #[.slice sa n sc] 25)) :=
    ⟨hr3.below bx, b03.trans (bx.mono b03.size), (bx.block w.heap.size (by omega)).trans z3, xb, hin3.below bx, hf3 _ (by omega), hf3 _ (by omega), by omega, by omega⟩
  have HNN := hid_in hnn
  have HS := hid_in hs3
  have n62 : n ≤ 62 := by omega
  clear HA hr3 hg3 hin3 hs3 hf3 hnn z3 b03 xb bx z2 b02 b2 z1 b0
  have cS := cell_of_block HG.sb 0
  simp only [List.getElem?_toArray, List.getElem?_cons_zero] at cS
  have cR := cell_of_block HG.res 0
  have fR := frozen_of_block HG.res 0
  simp only [List.getElem?_toArray, List.getElem?_cons_zero] at cR
  by_cases h0 : n = 0
  · subst h0
    have HF := hid_in (HG.outRow.drawn HS.out ⟨#[116, 101, 97, 109]⟩ ⟨#[103, 111, 110, 101]⟩ ⟨#[114, 111, 111, 109]⟩)
    have y0 := HG.outRow.2.1
    have zR := HG.res
    clear cR fR HG
    go_wp2_with (with_reducible show wpList _ _ _ (Oper.mk _ (Op.store _ (Operand.tmp 2) _) _ _ _ _ :: _) _ _; refine wpList_store_row rfl 25 _ _ rfl w.heap.size #[.slice sa 0 sc] ?_ ?_ 25 _ zR ?_ ?_ ?_ ?_)
    all_goals (first | rfl | kernel_rfl | exact sheet_size | skip)
    generalize World.setRow _ w.heap.size #[.slice sa 0 sc] = W at HF y0 ⊢
    go_wp2_with fail
    exact bodyPost_ret (v := .tuple #[.agg #[.slice sa 0 sc], .string ⟨#[116, 101, 97, 109]⟩, .string ⟨#[103, 111, 110, 101]⟩, .string ⟨#[114, 111, 111, 109]⟩]) (by simp [results, Tryz.results32, go_sem, y0]) rfl HF.out
  · have hn1 : (0 : Int) < (n : Int) := by omega
    have HP := pick_any w.heap.size (w.heap.size + 1) k3 8 _ HG.rd (by omega) (by omega) (by omega)
    have HGH := hid_in HG
    obtain ⟨b0, off, rfl, _⟩ : ∃ b off, sa = some ⟨b, off, none⟩ ∧ True := by
      obtain ⟨b, off, e, _⟩ := HG.bin.1.at (by have := HNN.out; omega)
      exact ⟨b, off, e, trivial⟩
    clear HG cR fR
    go_wp2_with (go_at_call 44; refine HP.mono ?_)
    rintro e w5 ⟨y, hy, rfl, hr5, hg5⟩
    have HG5 := HGH.out.grown hg5 hr5
    clear HGH hg5
    generalize hS : w3.heap.size = S at *
    have cS := cell_of_block HG5.sb 0
    simp only [List.getElem?_toArray, List.getElem?_cons_zero] at cS
    have cR := 0
    have fR := 0
    clear HP hr5
    by_cases hy0 : y = 0
    · subst hy0
      have HF := hid_in (HG5.outRow.drawn HS.out ⟨#[116, 101, 97, 109]⟩ ⟨#[103, 111, 110, 101]⟩ ⟨#[114, 111, 111, 109]⟩)
      have y0 := HG5.outRow.2.1
      have zR := HG5.res
      clear cR fR HG5
      go_wp2_with (with_reducible show wpList _ _ _ (Oper.mk _ (Op.store _ (Operand.tmp 2) _) _ _ _ _ :: _) _ _; refine wpList_store_row rfl 25 _ _ rfl w.heap.size #[.slice (some ⟨b0, off, none⟩) n sc] ?_ ?_ 25 _ zR ?_ ?_ ?_ ?_)
      all_goals (first | rfl | kernel_rfl | exact sheet_size | skip)
      generalize World.setRow _ w.heap.size #[.slice (some ⟨b0, off, none⟩) n sc] = W at HF y0 ⊢
      go_wp2_with fail
      exact bodyPost_ret (v := .tuple #[.agg #[.slice (some ⟨b0, off, none⟩) n sc], .string ⟨#[116, 101, 97, 109]⟩, .string ⟨#[103, 111, 110, 101]⟩, .string ⟨#[114, 111, 111, 109]⟩]) (by simp [results, Tryz.results32, go_sem, y0]) rfl HF.out
    · have hy1 : (0 : Int) < (y : Int) := by omega
      have HG5H := hid_in HG5
      clear HG5 cR fR
      go_upto_region 4 with fail
      refine regionG4 HG5H.out HNN.out.symm (by omega) (by omega) (by omega) (by kernel_rfl) (by kernel_rfl) (by kernel_rfl) ?_
      intro v R kind name ba m c k' W6 a' ha' e9 hk' HG6 hR6 hSR
      simp only [putS, setS, List.setIfInBounds_toArray, List.set_cons_zero, List.set_cons_succ, e9] at ha'
      subst ha'
      have c0 := cell_of_block hR6 0
      simp only [List.getElem?_toArray, List.getElem?_cons_zero] at c0
      have hRl : R < W6.heap.size := (Array.getElem?_eq_some_iff.1 hR6).1
      have HSR := specRules_any kind W6
      have hsm := rulesOf_like kind
      have HG6H := hid_in HG6
      have HR6H := hid_in hR6
      clear HG6 hR6 cS HG5H e9
      go_wp2_with (go_at_call 56; refine HSR.mono ?_)
      rintro e w7 ⟨rv, LR, rfl, hpl, hrl, b7⟩
      have hLR : LR.length ≤ 1000 := by
        have := congrArg List.length hpl
        have := hsm.1
        simp at *
        omega
      obtain ⟨ro, rc, erv, _⟩ := own_form (show w7.ownsRow W6.heap.size 54 4 rv LR.length (LR.flatMap RAt.cells) from Mem.head hrl)
      subst erv
      have HG7 := HG6H.out.below b7
      have hR7 := (b7.block R hRl).trans HR6H.out
      have HRL := hid_in hrl
      have hpz : w.heap.size + 1 < W6.heap.size := HG6H.out.rd.lt
      clear HSR hsm hpl hrl HG6H HR6H c0
      generalize hnR : LR.length = nR at *
      have ENR := hid_in hnR
      clear hnR
      have HG7H := hid_in HG7
      have HR7H := hid_in hR7
      by_cases hr0 : nR = 0
      · have hr1 : ¬ (0 : Int) < (nR : Int) := by omega
        clear HG7 hR7 b7
        go_upto_region 8 with fail
        refine regionG8 HG7H.out HR7H.out hSR (by kernel_rfl) (by kernel_rfl) (by kernel_rfl) (by kernel_rfl) ?_
        intro v2 W2 a2 ha2 e6 e7 e8 hF
        simp only [putS, setS, List.setIfInBounds_toArray, List.set_cons_zero, List.set_cons_succ, List.set_nil, e6, e7, e8] at ha2
        subst ha2
        have y0 := hF.2.1
        have HF := hid_in (hF.drawn HS.out kind name ⟨#[110, 111, 110, 101]⟩)
        clear hF
        go_wp2_with fail
        exact bodyPost_ret (v := .tuple #[.agg #[.slice (some ⟨b0, off, none⟩) n sc], .string kind, .string name, .string ⟨#[110, 111, 110, 101]⟩]) (by simp [results, Tryz.results32, go_sem, y0]) rfl HF.out
      · have hr1 : (0 : Int) < (nR : Int) := by omega
        obtain ⟨gr, rfl⟩ : ∃ gr, ro = some ⟨gr, 0, none⟩ := own_at (show w7.ownsRow W6.heap.size 54 4 (.slice ro nR rc) LR.length (LR.flatMap RAt.cells) from Mem.head HRL.out) (by have := ENR.out; omega)
        have HP2 := pick_any w.heap.size (w.heap.size + 1) k' 8 w7 HG7.rd (by omega) (by omega) (by omega)
        clear HG7 hR7
        go_wp2_with (go_at_call 44; refine HP2.mono ?_)
        rintro e w8 ⟨y2, hy2, rfl, hr8, hg8⟩
        have HG8 := hid_in (HG7H.out.grown hg8 hr8)
        have HR8 := hid_in (KeepP.grown hg8 R _ (Nat.lt_trans HG7H.out.pS hSR) HR7H.out)
        have HL8 := hid_in (show RulesAt W6.heap.size w8 (.slice (some ⟨gr, 0, none⟩) nR rc) LR from Mem.other HRL.out hg8 hpz)
        clear HP2 HG7H HR7H HRL hr8 hg8 b7
        by_cases hy20 : y2 = 0
        · subst hy20
          go_upto_region 8 with fail
          refine regionG8 HG8.out HR8.out hSR (by kernel_rfl) (by kernel_rfl) (by kernel_rfl) (by kernel_rfl) ?_
          intro v2 W2 a2 ha2 e6 e7 e8 hF
          simp only [putS, setS, List.setIfInBounds_toArray, List.set_cons_zero, List.set_cons_succ, List.set_nil, e6, e7, e8] at ha2
          subst ha2
          have y0 := hF.2.1
          have HF := hid_in (hF.drawn HS.out kind name ⟨#[110, 111, 110, 101]⟩)
          clear hF
          go_wp2_with fail
          exact bodyPost_ret (v := .tuple #[.agg #[.slice (some ⟨b0, off, none⟩) n sc], .string kind, .string name, .string ⟨#[110, 111, 110, 101]⟩]) (by simp [results, Tryz.results32, go_sem, y0]) rfl HF.out
        · have hy21 : (0 : Int) < (y2 : Int) := by omega
          go_upto_region 7 with fail
          refine regionG7 HG8.out HR8.out hSR HL8.out ENR.out hpz (by omega) hLR (by omega) (by kernel_rfl) (by kernel_rfl) (by kernel_rfl) (by kernel_rfl) (by kernel_rfl) (by kernel_rfl) ?_
          intro v2 u W2 a2 ha2 e14 e15 e16 hF
          simp only [putS, setS, List.setIfInBounds_toArray, List.set_cons_zero, List.set_cons_succ, List.set_nil, e14, e15, e16] at ha2
          subst ha2
          have y0 := hF.2.1
          have HF := hid_in (hF.drawn HS.out kind name u)
          clear hF
          go_wp2_with fail
          exact bodyPost_ret (v := .tuple #[.agg #[.slice (some ⟨b0, off, none⟩) n sc], .string kind, .string name, .string u]) (by simp [results, Tryz.results32, go_sem, y0]) rfl HF.out
end Go.Proofs.YtpdahhnjhggocaaGreatDoor
namespace Go.Proofs.YtpdahhnjhggocaaGreatDoor
open Go.RowKit
/-- The law FnFill. -/
theorem fnFill_all (a : Option Addr) (len cap : Nat) (w : World) (hc : len ≤ 1048576 → Code w.heap.size w a len cap) (hlen : len ≤ 9223372036854775807) (hst : StdAt w) : Calls Tryz.prog 6 #[.slice a len cap] w fun e w' => e = .returned (.bool true) ∧ Below w.heap.size w w' :=
  fnFill_any a len cap w hlen hst (fun h => drawFill_any a len cap w (hc h)) (fun h W hb => drawGet_any a len cap W ((hc h).below hb hb.size))
end Go.Proofs.YtpdahhnjhggocaaGreatDoor
