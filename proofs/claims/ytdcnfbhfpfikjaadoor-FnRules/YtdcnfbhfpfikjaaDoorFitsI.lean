import Derived.Test.YtdcnfbhfpfikjaaDoorFitsH
namespace Go.Proofs.YtdcnfbhfpfikjaaDoor
open Go.RowKit
set_option maxHeartbeats 2000000 in
set_option maxRecDepth 100000 in
theorem implFits_any {C nw cw : Nat} {wo : Option Addr} (kind key : ByteArray) {ws : List (List UInt8)} {w : World} (h2 : w.ownsRow C 9 1 (.slice wo nw cw) nw (strs ws)) (hw : nw ≤ 1048576) (hs : ∀ x ∈ ws, x.length ≤ 1048576) (hst : StdAt w) :
    Calls Tryd.prog 16 #[.string kind, .string key, .slice wo nw cw] w fun e w' => e = .returned (.bool (fitsIn (rulesOf kind) key ws)) ∧ Below w.heap.size w w' := by
  have hsm := rulesOf_like kind
  have HS := implRules_any kind w
  generalize rulesOf kind = R at hsm HS ⊢
  go_enter Tryd.func16, Tryd.ntmps16
  go_wp2_with (go_at_call 14; refine HS.mono ?_)
  rintro e w1 ⟨v, L, rfl, hp, hr, b1⟩
  clear HS
  have hl : L.length ≤ 12 := by have := hsm.1; rw [← hp, List.length_map] at this; exact this
  have HF := findRule_any key hr hl
  go_wp2_with (go_at_call 40; refine HF.mono ?_)
  rintro e w2 ⟨b2, ⟨hn, rfl⟩ | ⟨r, hrL, hn, rfl⟩⟩
  · rw [hp] at hn
    have HB := hid_in (fitsIn_none ws hn).symm
    have b12 := b1.trans (b2.mono b1.size)
    have b3 := b12.alloc b12.size (.cells #[.string ⟨#[]⟩, .slice none 0 0, .bool false, .slice none 0 0] 35)
    clear HF hr hn hp hsm h2 hs hst
    go_wp2
    go_ret
    exact ⟨ret_bool HB.out, b3⟩
  · obtain ⟨D, T, rfl⟩ := List.append_of_mem hrL
    have hr2 := hr.rm.below b2
    have o1 := hr2.args
    have o2 := hr2.defs
    rw [hp] at hn
    have hsp := hsm.2 r.plain (by rw [← hp]; simp)
    have HB := hid_in (show fitsWords r.ns ws = fitsIn R key ws from (fitsIn_some ws hn).symm)
    obtain ⟨rk, va, ns, many, vd, ds⟩ := r
    simp only [RAt.plain] at o1 o2 hsp HB
    generalize hns : ns.length = p at o1 hsp
    generalize hds : ds.length = q at o2
    obtain ⟨bo, ca, rfl, _⟩ := own_form o1
    obtain ⟨co, cb, rfl, _⟩ := own_form o2
    have b12 := b1.trans (b2.mono b1.size)
    have b3 := b12.alloc b12.size (.cells #[.string rk, .slice bo p ca, .bool many, .slice co q cb] 35)
    have HT := ruleTakes_any (key := rk) (many := many) (bo := co) (m := q) (cb := cb) (o1.alloc (.cells #[.string rk, .slice bo p ca, .bool many, .slice co q cb] 35)) (own_below h2 b3) (by have := hsp.1; omega) hw hsp.2 hs (hst.below b3)
    clear HF hr hr2 hn hp hsm h2 hs hst hsp o1 o2 hrL
    go_wp2_with (go_at_call 41; refine HT.mono ?_; rintro e w3 ⟨rfl, b4⟩)
    go_ret
    exact ⟨ret_bool HB.out, b3.trans (b4.mono b3.size)⟩
end Go.Proofs.YtdcnfbhfpfikjaaDoor
