import Derived.Test.YtpdahhnjhggocabGreatDoorBun49
import Derived.Test.YtpdahhnjhggocabGreatDoorBun45
import Derived.Test.YtpdahhnjhggocabGreatDoorCards
import Derived.Test.YtpdahhnjhggocabGreatDoorTie
import Derived.ProofKit
import Derived.OpenShut
import Derived.ShutString
import Derived.SliceStrings
import Derived.ChangeOld
import Derived.LaidMore
import Derived.Lay
import Derived.OpenVars
import Derived.ChangeVars
import Derived.LaidHandle
import Derived.LaidSub
import Derived.MakeChecks
import Derived.FnData
import Derived.SevenTiedAt
import Derived.Stop.Joined
import Derived.Stop.LaidErr
import Derived.Lib.LaidTab
namespace Go.Proofs.YtpdahhnjhggocabGreatDoor
open Go.ChangeShapes Go.WideShapes Go.ChangeAt Go.RowKit
open Go.ChangeMaps (open_string shut_string)
set_option linter.unusedVariables false

theorem ownK : ownKnob Tryz.prog.godebug = none := by kernel_rfl
theorem laidOut : laidOutB Tryz.prog = true := by kernel_rfl
theorem star : "*" ++ "errors.errorString" = "*errors.errorString" := by decide
theorem rowES (u : TypeId) (h : Tryz.prog.typeName? 3 u = some "*errors.errorString") : u = 371 :=
 typeName_ptr_named (nm := "errors.errorString") (by rw [star]; kernel_rfl) (by kernel_rfl) (by decide) u (by rw [star]; exact h)
theorem std_of {W : World} (h : laidMetH Tryz.prog Rows.fnExactSheetReportRow.laid W) : StdAt W := by
 have h0 := laidMetH.filter (fun x => x.2.handleName?.isNone) h
 rw [MakeChecks.laidMetH_plain _ _ _ (by kernel_rfl), show Rows.fnExactSheetReportRow.laid.filter (fun x => x.2.handleName?.isNone) = [("math/bits.deBruijn32tab", Rows.laid_math_bits_deBruijn32tab), ("math/bits.deBruijn64tab", Rows.laid_math_bits_deBruijn64tab), ("internal/strconv.uint64pow10", Rows.laid_internal_strconv_uint64pow10), ("unicode/utf8.acceptRanges", Rows.laid_unicode_utf8_acceptRanges), ("strconv.ErrRange", Rows.laid_strconv_ErrRange), ("strconv.ErrSyntax", Rows.laid_strconv_ErrSyntax), ("loop.example/wharfsheet/impl.faultTexts", Rows.laid_loop_example_wharfsheet_impl_faultTexts), ("unicode/utf8.first", Rows.laid_unicode_utf8_first)] by kernel_rfl] at h0
 have h3 := laidMet.tail (laidMet.tail (h0))
 have h4 := laidMet.tail (laidMet.tail (h3))
 have h5 := laidMet.tail h4
 obtain ⟨a0, s0, hv0, -, -, -⟩ := laid_sentinel h4 (g := 9) (by kernel_rfl) (ti := 73) (by kernel_rfl) Tryz.underlying73 rowES Tryz.underlying371 Tryz.underlying373 rfl rfl Tryz.underlying9 (by kernel_rfl) (by kernel_rfl)
 obtain ⟨a1, s1, hv1, -, -, -⟩ := laid_sentinel h5 (g := 8) (by kernel_rfl) (ti := 73) (by kernel_rfl) Tryz.underlying73 rowES Tryz.underlying371 Tryz.underlying373 rfl rfl Tryz.underlying9 (by kernel_rfl) (by kernel_rfl)
 exact ⟨⟨_, _, hv1⟩, ⟨_, _, hv0⟩, Lib.tabIs_of_head (g := 3) (by kernel_rfl) (t := 348) (by kernel_rfl) Tryz.underlying348 Tryz.underlying271 (by kernel_rfl) (by kernel_rfl) h3⟩

noncomputable def start0 (os : Os) : World :=
 let w0 := World.holding Tryz.prog os ⟨#[], #[], []⟩
 { w0 with heap := w0.heap.modify 0 fun
    | .cells _ t fr => .cells #[.iface 248 (.agg #[typeHandle Tryz.prog 73])] t fr
    | o => o }
noncomputable def startW (os : Os) : World := (start0 os).layVars Tryz.prog (Rows.fnExactSheetReportRow.laid.filter fun x => x.2.handleName?.isNone)
theorem startW_os (os : Os) : (startW os).os = os := World.layVars_os _ _ _
theorem met_start {P : Program} {w0 : World} {l : List (String × DataW Unit)} (args : Array Value) (hf : w0.layFits P l [] = true) (hi : w0.layIfaces P l (w0.layVars P l) = true) : laidMet P l ((w0.layVars P l).forCall (fun _ _ => 0) ⟨#[], args, []⟩).memory := by
 have e1 : (l.filter fun x => (l.map (·.1)).contains x.1) = l := List.filter_eq_self.2 fun x hx => List.contains_iff_mem.2 (List.mem_map_of_mem hx)
 have e2 : (l.filter fun x => !(l.map (·.1)).contains x.1) = [] := List.filter_eq_nil_iff.2 fun x hx => by rw [List.contains_iff_mem.2 (List.mem_map_of_mem hx)]; simp
 have h : laidMet P l (w0.layVars P l) := laidMet_layVars (l.map (·.1)) [] (by rw [e1]) (by rw [e1]; exact hf) (by rw [e1]; exact hi) (by rw [e2]; exact LaidIn.none)
 exact h.of_heap (by simp [World.memory, World.forCall, Input.heap])
theorem startW_met (os : Os) (args : Array Value) : laidMetH Tryz.prog Rows.fnExactSheetReportRow.laid ((startW os).forCall (fun _ _ => 0) ⟨#[], args, []⟩).memory := laidMetH_of_parts (met_start args (by kernel_rfl) (by kernel_rfl)) (by kernel_rfl)
theorem errT_of {W : World} (h : laidMetH Tryz.prog Rows.fnExactSheetReportRow.laid W) : ErrT W := by
 unfold laidMetH at h
 rw [show (Rows.fnExactSheetReportRow.laid.filter fun x => x.2.handleName?.isSome) = [("errors.errorType", Rows.laid_errors_errorType)] by kernel_rfl] at h
 have hh := (show laidMet Tryz.prog _ W ∧ handlesMet Tryz.prog [("errors.errorType", Rows.laid_errors_errorType)] W from h).2 _ (List.mem_singleton.2 rfl)
 simp only at hh
 rw [show (Rows.laid_errors_errorType).funcsIn? = none by kernel_rfl] at hh
 obtain ⟨name, u, ty, e1, e2, hlt, hr, hv⟩ := hh
 have hn : name = [101, 114, 114, 111, 114] := Option.some.inj (e1.symm.trans (by kernel_rfl))
 have hu : u = 248 := Option.some.inj (e2.symm.trans (by kernel_rfl))
 subst hn hu
 have hall : ((List.range Tryz.prog.types.size).all fun t => !Tryz.prog.rowNamed t [101, 114, 114, 111, 114] || t == 73) = true := by kernel_rfl
 have ht := List.all_eq_true.1 hall ty (List.mem_range.2 hlt)
 rw [hr] at ht
 obtain rfl : ty = 73 := by simpa using ht
 have hc := World.var?_cell (g := 0) (by kernel_rfl) hv 0
 unfold ErrT
 rw [hc]
 unfold typeHandle
 rw [show Tryz.prog.globals.size = 10 by kernel_rfl]
 rfl
theorem fault_of {W : World} (h : laidMetH Tryz.prog Rows.fnExactSheetReportRow.laid W) : FaultAt W := by
 have h0 := laidMetH.filter (fun x => x.2.handleName?.isNone) h
 rw [MakeChecks.laidMetH_plain _ _ _ (by kernel_rfl), show Rows.fnExactSheetReportRow.laid.filter (fun x => x.2.handleName?.isNone) = [("math/bits.deBruijn32tab", Rows.laid_math_bits_deBruijn32tab), ("math/bits.deBruijn64tab", Rows.laid_math_bits_deBruijn64tab), ("internal/strconv.uint64pow10", Rows.laid_internal_strconv_uint64pow10), ("unicode/utf8.acceptRanges", Rows.laid_unicode_utf8_acceptRanges), ("strconv.ErrRange", Rows.laid_strconv_ErrRange), ("strconv.ErrSyntax", Rows.laid_strconv_ErrSyntax), ("loop.example/wharfsheet/impl.faultTexts", Rows.laid_loop_example_wharfsheet_impl_faultTexts), ("unicode/utf8.first", Rows.laid_unicode_utf8_first)] by kernel_rfl] at h0
 exact fault_head (laidMet.tail (laidMet.tail (laidMet.tail (laidMet.tail (laidMet.tail (laidMet.tail h0))))))
set_option maxHeartbeats 4000000 in
set_option maxRecDepth 100000 in
theorem law_lifted (os : Os) (started : os.Started) (H : Type) (enc : TypeId × Value → H) :
  ReturnsInHanded {} Tryz.checked os 11 .any (fun w args => (Rows.fnExactSheetReportSpec.pre enc Tryz.prog Tryz.f11 [] false w args ∧ laidMetH Tryz.prog Rows.fnExactSheetReportRow.laid w) ∧ sizedMet enc Tryz.prog Tryz.f11 (OpenSpec.ofChange Rows.fnExactSheetReportSpec) false w args)
   (Rows.fnExactSheetReportSpec.post enc Tryz.prog Tryz.f11 false true false false) := by
 refine returnsInHanded_of_change_and (C := Tryz.checked) (X := fun w _ => laidMetH Tryz.prog Rows.fnExactSheetReportRow.laid w) (fun _ _ _ hh h => h.of_heap hh) ownK started (by kernel_rfl) Tryz.func11
  (ChangeSpec.witness_shaped (enc := enc) (C := Tryz.checked) (os := os) (X := fun w _ => laidMetH Tryz.prog Rows.fnExactSheetReportRow.laid w) false (startW os) #[.string ByteArray.empty, .string ByteArray.empty] 8 (startW_os os)
    (World.shaped_of_ZipB (by kernel_rfl) (by kernel_rfl)) (by kernel_rfl) (by kernel_rfl) (by kernel_rfl)
    (startW_met os _)) ?_
 intro W base args ds gs before hval0 hW x1 x2 x3 x4
 have hstd := std_of x3
 have hval : ∀ (j : Nat) t v, Tryz.f11.params[j]? = some t → args[j]? = some v → Value.okWide Tryz.prog W .any base t v := hval0
 have hW' := hW
 obtain ⟨p, q, hA0, hV, rfl, hfz, hnd⟩ := hW
 have hA : DataW.TrodAll enc Tryz.prog W 0 (fun _ => true) true Tryz.f11.params.toList args.toList ds p := hA0
 rw [Tryz.params11] at hA hval
 obtain ⟨v0, vs0, d0, ds0, p0, q0, hargs0, rfl, rfl, h0, r0⟩ := trodAll_cons hA
 obtain ⟨v1, vs1, d1, ds1, p1, q1, hargs1, rfl, rfl, h1, r1⟩ := trodAll_cons r0
 obtain ⟨rfl, rfl, rfl⟩ := trodAll_nil r1
 obtain rfl : args = #[v0, v1] := by cases args; simp_all
 obtain ⟨_, _, _, _, gd, _, rfl, -⟩ := trodVars_one hV
 obtain ⟨a0, rfl, rfl, rfl, w0⟩ := open_string Tryz.underlying9 (hval 0 9 v0 rfl rfl) h0
 obtain ⟨a1, rfl, rfl, rfl, w1⟩ := open_string Tryz.underlying9 (hval 1 9 v1 rfl rfl) h1
 clear hA0 hval0
 refine (reportLaw_any a0 a1 W hstd (errT_of x3) (fault_of x3)).mono fun e W' ⟨he, bel⟩ => ?_
 subst he
 exact ⟨_, rfl, _, _, _, _, _, _, hW', trodAll_mk1 (shut_bool Tryz.underlying4 _), (trodAll_cons_mk (shut_string Tryz.underlying9 w0) (trodAll_cons_mk (shut_string Tryz.underlying9 w1) trodAll_mk0)), Below.trodVars laidOut bel (by kernel_rfl) hV, bel.frame _, fun h => by cases h⟩

end Go.Proofs.YtpdahhnjhggocabGreatDoor
