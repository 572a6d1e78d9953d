import Derived.Test.YtpdahhnjhggocabGreatDoorBun50
import Derived.Test.YtpdahhnjhggocabGreatDoorBun48
import Derived.Test.YtpdahhnjhggocabGreatDoorCards
import Derived.Test.YtpdahhnjhggocabGreatDoorTie
import Derived.ProofKit
import Derived.OpenShut
import Derived.ShutString
import Derived.SliceStrings
import Derived.ChangeOld
import Derived.LaidMore
import Derived.Lay
import Derived.SevenTiedAt
import Derived.Stop.Joined
import Derived.Stop.LaidErr
import Derived.Lib.LaidTab
namespace Go.Proofs.YtpdahhnjhggocabGreatDoor
open Go.ChangeShapes Go.WideShapes Go.ChangeAt Go.RowKit
open Go.ChangeMaps (open_string shut_string)
set_option linter.unusedVariables false

theorem ownK : ownKnob Tryz.prog.godebug = none := by kernel_rfl
theorem laidOut : laidOutB Tryz.prog = true := by kernel_rfl
theorem star : "*" ++ "errors.errorString" = "*errors.errorString" := by decide
theorem rowES (u : TypeId) (h : Tryz.prog.typeName? 3 u = some "*errors.errorString") : u = 371 :=
 typeName_ptr_named (nm := "errors.errorString") (by rw [star]; kernel_rfl) (by kernel_rfl) (by decide) u (by rw [star]; exact h)
theorem std_of {W : World} (h : laidMet Tryz.prog Rows.fnExactSheetApplyRow.laid W) : StdAt W := by
 have h3 := laidMet.tail (laidMet.tail h)
 have h4 := laidMet.tail h3
 have h5 := laidMet.tail h4
 obtain ⟨a0, s0, hv0, -, -, -⟩ := laid_sentinel h4 (g := 9) (by kernel_rfl) (ti := 73) (by kernel_rfl) Tryz.underlying73 rowES Tryz.underlying371 Tryz.underlying373 rfl rfl Tryz.underlying9 (by kernel_rfl) (by kernel_rfl)
 obtain ⟨a1, s1, hv1, -, -, -⟩ := laid_sentinel h5 (g := 8) (by kernel_rfl) (ti := 73) (by kernel_rfl) Tryz.underlying73 rowES Tryz.underlying371 Tryz.underlying373 rfl rfl Tryz.underlying9 (by kernel_rfl) (by kernel_rfl)
 exact ⟨⟨_, _, hv1⟩, ⟨_, _, hv0⟩, Lib.tabIs_of_head (g := 3) (by kernel_rfl) (t := 348) (by kernel_rfl) Tryz.underlying348 Tryz.underlying271 (by kernel_rfl) (by kernel_rfl) h3⟩

set_option maxHeartbeats 4000000 in
set_option maxRecDepth 100000 in
theorem law_lifted (os : Os) (started : os.Started) (H : Type) (enc : TypeId × Value → H) :
  ReturnsInHanded {} Tryz.checked os 10 .any (fun w args => (Rows.fnExactSheetApplySpec.pre enc Tryz.prog Tryz.f10 [] false w args ∧ laidMetH Tryz.prog Rows.fnExactSheetApplyRow.laid w) ∧ sizedMet enc Tryz.prog Tryz.f10 (OpenSpec.ofChange Rows.fnExactSheetApplySpec) false w args)
   (Rows.fnExactSheetApplySpec.post enc Tryz.prog Tryz.f10 false true false false) := by
 refine returnsInHanded_of_change_and (C := Tryz.checked) (X := fun w _ => laidMetH Tryz.prog Rows.fnExactSheetApplyRow.laid w) (fun _ _ _ hh h => h.of_heap hh) ownK started (by kernel_rfl) Tryz.func10
  (ChangeSpec.witness_shaped (enc := enc) (C := Tryz.checked) (os := os) (X := fun w _ => laidMetH Tryz.prog Rows.fnExactSheetApplyRow.laid w) false (World.laidAll Tryz.prog os Rows.fnExactSheetApplyRow.laid) #[.agg #[.slice none 0 0], .slice none 0 0] 8 (World.laidAll_os _ _ _)
    (World.shaped_of_ZipB (by kernel_rfl) (by kernel_rfl)) (by kernel_rfl) (by kernel_rfl) (by kernel_rfl)
    (by rw [MakeChecks.laidMetH_plain _ _ _ (by kernel_rfl)]; exact laidMet_laidAll _ (by kernel_rfl) (by kernel_rfl))) ?_
 intro W base args ds gs before hval0 hW x1 x2 x3 x4
 rw [MakeChecks.laidMetH_plain _ _ _ (by kernel_rfl)] at x3
 have hstd := std_of x3
 have hval : ∀ (j : Nat) t v, Tryz.f10.params[j]? = some t → args[j]? = some v → Value.okWide Tryz.prog W .any base t v := hval0
 have hW' := hW
 obtain ⟨p, q, hA0, hV, rfl, hfz, hnd⟩ := hW
 have hA : DataW.TrodAll enc Tryz.prog W 0 (fun _ => true) true Tryz.f10.params.toList args.toList ds p := hA0
 rw [Tryz.params10] at hA hval
 obtain ⟨v0, vs0, d0, ds0, p0, q0, hargs0, rfl, rfl, h0, r0⟩ := trodAll_cons hA
 obtain ⟨v1, vs1, d1, ds1, p1, q1, hargs1, rfl, rfl, h1, r1⟩ := trodAll_cons r0
 obtain ⟨rfl, rfl, rfl⟩ := trodAll_nil r1
 obtain rfl : args = #[v0, v1] := by cases args; simp_all
 obtain ⟨rfl, rfl⟩ := trodVars_none hV
 obtain ⟨cs0, rfl, hsz0⟩ := okWide_struct Tryz.underlying35 (hval 0 35 v0 rfl rfl)
 rw [show Tryz.prog.cellsOf 35 = 1 by kernel_rfl] at hsz0
 obtain ⟨c0, rfl⟩ := one_of hsz0
 have k0 := h0
 have lt0 : ∀ x ∈ p0, x.block < W.heap.size := by obtain ⟨m, hm⟩ := k0; exact DataW.trod_lt m _ _ _ hm
 obtain ⟨bs0, hin0, hwide0⟩ : ∃ bs, BlocksIn W c0 bs ∧ BlocksWide bs := by
  obtain ⟨fuel, hf⟩ := h0
  exact sheet_of (show DataW.trod enc Tryz.prog W 0 (fun _ => true) true fuel 35 [c0] = some (d0, p0) from hf)
 obtain ⟨a1, len1, cap1, rfl⟩ := okWide_slice Tryz.underlying53 (hval 1 53 v1 rfl rfl)
 have k1 := h1
 have lt1 : ∀ x ∈ p1, x.block < W.heap.size := by obtain ⟨m, hm⟩ := k1; exact DataW.trod_lt m _ _ _ hm
 obtain ⟨bs1, hin1, hwide1⟩ : ∃ ls, ChangesIn W (.slice a1 len1 cap1) ls ∧ ChangesWide ls := by
  obtain ⟨fuel, hf⟩ := h1
  obtain ⟨v, ls, e, h1, h2⟩ := changes_of (show DataW.trod enc Tryz.prog W 0 (fun _ => true) true fuel 53 [.slice a1 len1 cap1] = some (d1, p1) from hf)
  simp at e
  subst e
  exact ⟨ls, h1, h2⟩
 clear hA0 hval0
 refine (applyLaw_any hin0 hwide0 hin1 hwide1 hstd).mono fun e W' ⟨he, bel⟩ => ?_
 subst he
 exact ⟨_, rfl, _, _, _, [], _, [], hW', trodAll_mk1 (shut_bool Tryz.underlying4 _), (trodAll_cons_mk (Below.trod laidOut (by kernel_rfl) (of_decide_eq_true (by kernel_rfl)) k0 bel lt0) (trodAll_cons_mk (Below.trod laidOut (by kernel_rfl) (of_decide_eq_true (by kernel_rfl)) k1 bel lt1) trodAll_mk0)), rfl, bel.frame _, fun h => by cases h⟩

end Go.Proofs.YtpdahhnjhggocabGreatDoor
