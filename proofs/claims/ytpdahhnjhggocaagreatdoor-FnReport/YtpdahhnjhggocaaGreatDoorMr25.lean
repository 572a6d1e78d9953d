import Derived.Test.YtpdahhnjhggocaaGreatDoorMr22
import Derived.Test.YtpdahhnjhggocaaGreatDoorCards
import Derived.Test.YtpdahhnjhggocaaGreatDoorTie
import Derived.ProofKit
import Derived.ShutString
import Derived.SliceStrings
import Derived.ChangeOld
import Derived.LaidMore
import Derived.Lay
import Derived.OpenVars
import Derived.ChangeVars
import Derived.LaidHandle
import Derived.LaidSub
import Derived.MakeChecks
import Derived.FnData
import Derived.SevenTiedAt
import Derived.Stop.Joined
import Derived.Stop.LaidErr
namespace Go.Proofs.YtpdahhnjhggocaaGreatDoor
open Go.ChangeShapes Go.WideShapes Go.ChangeAt Go.RowKit
open Go.ChangeMaps (open_string shut_string)
set_option linter.unusedVariables false

theorem Agi : ownKnob Tryz.prog.godebug = none := by kernel_rfl
theorem Wq : laidOutB Tryz.prog = true := by kernel_rfl
theorem Afx : "*" ++ "errors.errorString" = "*errors.errorString" := by decide
theorem Add (u : TypeId) (h : Tryz.prog.typeName? 3 u = some "*errors.errorString") : u = 361 :=
  typeName_ptr_named (nm := "errors.errorString") (by rw [Afx]; kernel_rfl) (by kernel_rfl) (by decide) u (by rw [Afx]; exact h)
theorem Aem {W : World} (h : laidMetH Tryz.prog Rows.fnReportRow.laid W) : BZ W := by
  have h0 := laidMetH.filter (fun x => x.2.handleName?.isNone) h
  rw [MakeChecks.laidMetH_plain _ _ _ (by kernel_rfl), show Rows.fnReportRow.laid.filter (fun x => x.2.handleName?.isNone) = [("math/bits.deBruijn32tab", Rows.laid_math_bits_deBruijn32tab), ("math/bits.deBruijn64tab", Rows.laid_math_bits_deBruijn64tab), ("internal/strconv.uint64pow10", Rows.laid_internal_strconv_uint64pow10), ("unicode/utf8.acceptRanges", Rows.laid_unicode_utf8_acceptRanges), ("strconv.ErrRange", Rows.laid_strconv_ErrRange), ("strconv.ErrSyntax", Rows.laid_strconv_ErrSyntax), ("loop.example/wharfsheet/impl.faultTexts", Rows.laid_loop_example_wharfsheet_impl_faultTexts), ("unicode/utf8.first", Rows.laid_unicode_utf8_first)] by kernel_rfl] at h0
  have h3 := laidMet.tail (laidMet.tail (h0))
  have h4 := laidMet.tail (laidMet.tail (h3))
  have h5 := laidMet.tail h4
  obtain ⟨a0, s0, hv0, -, -, -⟩ := laid_sentinel h4 (g := 5) (by kernel_rfl) (ti := 106) (by kernel_rfl) Tryz.underlying106 Add Tryz.underlying361 Tryz.underlying363 rfl rfl Tryz.underlying9 (by kernel_rfl) (by kernel_rfl)
  obtain ⟨a1, s1, hv1, -, -, -⟩ := laid_sentinel h5 (g := 4) (by kernel_rfl) (ti := 106) (by kernel_rfl) Tryz.underlying106 Add Tryz.underlying361 Tryz.underlying363 rfl rfl Tryz.underlying9 (by kernel_rfl) (by kernel_rfl)
  exact ⟨⟨_, _, hv1⟩, ⟨_, _, hv0⟩, Lib.tabIs_of_head (g := 3) (by kernel_rfl) (t := 339) (by kernel_rfl) Tryz.underlying339 Tryz.underlying279 (by kernel_rfl) (by kernel_rfl) h3⟩

theorem Acx {W : World} {a : Option Addr} {len cap : Nat} (h : (a = none ∧ len = 0 ∧ cap = 0) ∨ ∃ (x : Addr) (zs : List Int), a = some x ∧ len ≤ cap ∧ cap ≤ maxLen ∧ zs.length = cap ∧ (∀ i, i < zs.length → W.cell? (x.add i) = some (.int .u8 (zs.getD i 0))) ∧ ∀ n ∈ zs, (Lit.int .u8 n).wf = true) :
    (len ≤ 1048576 → Code W.heap.size W a len cap) ∧ len ≤ 9223372036854775807 := by
  rcases h with ⟨rfl, rfl, rfl⟩ | ⟨x, zs, rfl, hl, hm, hz, hc, hw⟩
  · exact ⟨fun _ => ⟨by omega, by omega, by omega, Or.inl rfl⟩, by omega⟩
  · unfold maxLen at hm
    refine ⟨fun hs => ⟨hs, hl, by omega, ?_⟩, by omega⟩
    by_cases h0 : len = 0
    · exact Or.inl h0
    · obtain ⟨b, off, rfl, hcell⟩ := ints_at hc (by omega)
      have hb := World.block_lt_of_cell? W _ (hcell 0 (by omega))
      refine Or.inr ⟨b, off, rfl, hb, fun i hi => ?_⟩
      have hi' : i < zs.length := by omega
      have hn := bounds_u8 (hw (zs[i]) (List.getElem_mem hi'))
      have e : zs.getD i 0 = zs[i] := by simp [List.getD, hi']
      refine ⟨(zs[i]).toNat, by omega, ?_⟩
      rw [hcell i hi', e]
      congr 2
      omega

noncomputable def Aen (os : Os) : World :=
  let w0 := World.holding Tryz.prog os ⟨#[], #[], []⟩
  { w0 with heap := w0.heap.modify 0 fun
      | .cells _ t fr => .cells #[.iface 256 (.agg #[typeHandle Tryz.prog 106])] t fr
      | o => o }
noncomputable def VE (os : Os) : World := (Aen os).layVars Tryz.prog (Rows.fnReportRow.laid.filter fun x => x.2.handleName?.isNone)
theorem Yb (os : Os) : (VE os).os = os := World.layVars_os _ _ _
theorem Yc {P : Program} {w0 : World} {l : List (String × DataW Unit)} (args : Array Value) (hf : w0.layFits P l [] = true) (hi : w0.layIfaces P l (w0.layVars P l) = true) : laidMet P l ((w0.layVars P l).forCall (fun _ _ => 0) ⟨#[], args, []⟩).memory := by
  have e1 : (l.filter fun x => (l.map (·.1)).contains x.1) = l := List.filter_eq_self.2 fun x hx => List.contains_iff_mem.2 (List.mem_map_of_mem hx)
  have e2 : (l.filter fun x => !(l.map (·.1)).contains x.1) = [] := List.filter_eq_nil_iff.2 fun x hx => by rw [List.contains_iff_mem.2 (List.mem_map_of_mem hx)]; simp
  have h : laidMet P l (w0.layVars P l) := laidMet_layVars (l.map (·.1)) [] (by rw [e1]) (by rw [e1]; exact hf) (by rw [e1]; exact hi) (by rw [e2]; exact LaidIn.none)
  exact h.of_heap (by simp [World.memory, World.forCall, Input.heap])
theorem VF (os : Os) (args : Array Value) : laidMetH Tryz.prog Rows.fnReportRow.laid ((VE os).forCall (fun _ _ => 0) ⟨#[], args, []⟩).memory := laidMetH_of_parts (Yc args (by kernel_rfl) (by kernel_rfl)) (by kernel_rfl)
theorem Acy {W : World} (h : laidMetH Tryz.prog Rows.fnReportRow.laid W) : Ho W := by
  unfold laidMetH at h
  rw [show (Rows.fnReportRow.laid.filter fun x => x.2.handleName?.isSome) = [("errors.errorType", Rows.laid_errors_errorType)] by kernel_rfl] at h
  have hh := (show laidMet Tryz.prog _ W ∧ handlesMet Tryz.prog [("errors.errorType", Rows.laid_errors_errorType)] W from h).2 _ (List.mem_singleton.2 rfl)
  simp only at hh
  rw [show (Rows.laid_errors_errorType).funcsIn? = none by kernel_rfl] at hh
  obtain ⟨name, u, ty, e1, e2, hlt, hr, hv⟩ := hh
  have hn : name = [101, 114, 114, 111, 114] := Option.some.inj (e1.symm.trans (by kernel_rfl))
  have hu : u = 256 := Option.some.inj (e2.symm.trans (by kernel_rfl))
  subst hn hu
  have hall : ((List.range Tryz.prog.types.size).all fun t => !Tryz.prog.rowNamed t [101, 114, 114, 111, 114] || t == 106) = true := by kernel_rfl
  have ht := List.all_eq_true.1 hall ty (List.mem_range.2 hlt)
  rw [hr] at ht
  obtain rfl : ty = 106 := by simpa using ht
  have hc := World.var?_cell (g := 0) (by kernel_rfl) hv 0
  unfold Ho
  rw [hc]
  unfold typeHandle
  rw [show Tryz.prog.globals.size = 10 by kernel_rfl]
  rfl
theorem Aao {W : World} (h : laidMetH Tryz.prog Rows.fnReportRow.laid W) : DB W := by
  have h0 := laidMetH.filter (fun x => x.2.handleName?.isNone) h
  rw [MakeChecks.laidMetH_plain _ _ _ (by kernel_rfl), show Rows.fnReportRow.laid.filter (fun x => x.2.handleName?.isNone) = [("math/bits.deBruijn32tab", Rows.laid_math_bits_deBruijn32tab), ("math/bits.deBruijn64tab", Rows.laid_math_bits_deBruijn64tab), ("internal/strconv.uint64pow10", Rows.laid_internal_strconv_uint64pow10), ("unicode/utf8.acceptRanges", Rows.laid_unicode_utf8_acceptRanges), ("strconv.ErrRange", Rows.laid_strconv_ErrRange), ("strconv.ErrSyntax", Rows.laid_strconv_ErrSyntax), ("loop.example/wharfsheet/impl.faultTexts", Rows.laid_loop_example_wharfsheet_impl_faultTexts), ("unicode/utf8.first", Rows.laid_unicode_utf8_first)] by kernel_rfl] at h0
  exact VD (laidMet.tail (laidMet.tail (laidMet.tail (laidMet.tail (laidMet.tail (laidMet.tail h0))))))
set_option maxHeartbeats 4000000 in
set_option maxRecDepth 100000 in
theorem VG (os : Os) (started : os.Started) (H : Type) (enc : TypeId × Value → H) :
    ReturnsInHanded {} Tryz.checked os 9 .any (fun w args => (Rows.fnReportSpec.pre enc Tryz.prog Tryz.f9 [] false w args ∧ laidMetH Tryz.prog Rows.fnReportRow.laid w) ∧ sizedMet enc Tryz.prog Tryz.f9 (OpenSpec.ofChange Rows.fnReportSpec) false w args)
      (Rows.fnReportSpec.post enc Tryz.prog Tryz.f9 false true false false) := by
  refine returnsInHanded_of_change_and (C := Tryz.checked) (X := fun w _ => laidMetH Tryz.prog Rows.fnReportRow.laid w) (fun _ _ _ hh h => h.of_heap hh) Agi started (by kernel_rfl) Tryz.func9
    (ChangeSpec.witness_shaped (enc := enc) (C := Tryz.checked) (os := os) (X := fun w _ => laidMetH Tryz.prog Rows.fnReportRow.laid w) false (VE os) #[.slice none 0 0] 8 (Yb os)
      (World.shaped_of_ZipB (by kernel_rfl) (by kernel_rfl)) (by kernel_rfl) (by kernel_rfl) (by kernel_rfl)
      (VF os _)) ?_
  intro W base args ds gs before hval0 hW x1 x2 x3 x4
  have hstd := Aem x3
  have hval : ∀ (j : Nat) t v, Tryz.f9.params[j]? = some t → args[j]? = some v → Value.okWide Tryz.prog W .any base t v := hval0
  have hW' := hW
  obtain ⟨p, q, hA0, hV, rfl, hfz, hnd⟩ := hW
  have hA : DataW.TrodAll enc Tryz.prog W 0 (fun _ => true) true Tryz.f9.params.toList args.toList ds p := hA0
  rw [Tryz.params9] at hA hval
  obtain ⟨v0, vs0, d0, ds0, p0, q0, hargs0, rfl, rfl, h0, r0⟩ := trodAll_cons hA
  obtain ⟨rfl, rfl, rfl⟩ := trodAll_nil r0
  obtain rfl : args = #[v0] := by cases args; simp_all
  obtain ⟨_, _, _, _, gd, _, rfl, -⟩ := trodVars_one hV
  obtain ⟨a0, len0, cap0, rfl⟩ := okWide_slice Tryz.underlying22 (hval 0 22 v0 rfl rfl)
  have k0 := h0
  have lt0 : ∀ x ∈ p0, x.block < W.heap.size := by obtain ⟨m, hm⟩ := k0; exact DataW.trod_lt m _ _ _ hm
  have w0 : (a0 = none ∧ len0 = 0 ∧ cap0 = 0) ∨ ∃ (x : Addr) (zs : List Int), a0 = some x ∧ len0 ≤ cap0 ∧ cap0 ≤ maxLen ∧ zs.length = cap0 ∧ (∀ i, i < zs.length → W.cell? (x.add i) = some (.int .u8 (zs.getD i 0))) ∧ ∀ n ∈ zs, (Lit.int .u8 n).wf = true := by
    obtain ⟨fuel, hf⟩ := h0
    rcases open_ints Tryz.underlying22 Tryz.underlying5 (by kernel_rfl) hf with ⟨hcs, _⟩ | ⟨x, l, c, zs, hcs, _, hl, hm, hz, _, hcell, hwz⟩
    · simp [Value.cells] at hcs
      obtain ⟨rfl, rfl, rfl⟩ := hcs
      exact .inl ⟨rfl, rfl, rfl⟩
    · simp [Value.cells] at hcs
      obtain ⟨rfl, rfl, rfl⟩ := hcs
      exact .inr ⟨_, zs, rfl, hl, hm, by simpa using hz, hcell, hwz⟩
  have hcode0 := Acx w0
  clear hA0 hval0
  refine (RI a0 len0 cap0 W hcode0.1 hcode0.2 hstd (Acy x3) (Aao x3)).mono fun e W' ⟨he, bel⟩ => ?_
  subst he
  exact ⟨_, rfl, _, _, _, _, _, _, hW', trodAll_mk1 (shut_bool Tryz.underlying4 _), (trodAll_cons_mk (Below.trod Wq (by kernel_rfl) (of_decide_eq_true (by kernel_rfl)) k0 bel lt0) trodAll_mk0), Below.trodVars Wq bel (by kernel_rfl) hV, bel.frame _, fun h => by cases h⟩

end Go.Proofs.YtpdahhnjhggocaaGreatDoor
