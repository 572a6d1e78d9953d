import Derived.Test.YtlaejmehgaeobabGreatDoorRulesC
namespace Go.Proofs.YtlaejmehgaeobabGreatDoor
open Go.RowKit
theorem run_find {P : Program} {w : World} {mty kt et : TypeId} {r clock : Nat} {es : Array MapEntry} {s : ByteArray} {i : Nat} {v : Value} (hm : P.underlying mty = some (.map kt et)) (hk : P.underlying kt = some .string) (hb : w.heap[r]? = some (.map es clock))
    (hf : Instr.findNow .string (.string s) es.toList 0 = some (some (i, v))) : (Instr.lookup mty (.map (some r)) (.string s) false).run P w = .ok v w := by
  have hc : (Instr.checkKey es.isEmpty 10000 kt (.string s)).run P w = .ok () w := MapKept.run_checkKey (k := .string s) hk (by simp [MapKept.IsKey]) _ 9999
  simp [Instr.lookup, run_underlying hm, MapKept.run_getObj_map hb, hc, MapKept.run_findKey hk hf, Result.andThen]
theorem run_find_not {P : Program} {w : World} {mty kt et : TypeId} {r clock : Nat} {es : Array MapEntry} {s : ByteArray} {z : Value} (hm : P.underlying mty = some (.map kt et)) (hk : P.underlying kt = some .string) (hz : (zeroValue et).run P w = .ok z w) (hb : w.heap[r]? = some (.map es clock))
    (hf : Instr.findNow .string (.string s) es.toList 0 = some none) : (Instr.lookup mty (.map (some r)) (.string s) false).run P w = .ok z w := by
  have hc : (Instr.checkKey es.isEmpty 10000 kt (.string s)).run P w = .ok () w := MapKept.run_checkKey (k := .string s) hk (by simp [MapKept.IsKey]) _ 9999
  simp [Instr.lookup, run_underlying hm, MapKept.run_getObj_map hb, hc, MapKept.run_findKey hk hf, hz, Result.andThen]
theorem same_bytes {s : ByteArray} {l : List UInt8} (h : s.toList = l) : (s == ⟨l.toArray⟩) = true := by
  rw [MapKept.bytes_beq]; apply ByteArray.ext; apply Array.toList_inj.1; rw [← ByteArray.toList_eq, h]
theorem other_bytes {s : ByteArray} {l : List UInt8} (h : ¬ s.toList = l) : (s == ⟨l.toArray⟩) = false := by
  rw [Bool.eq_false_iff]; intro e; rw [MapKept.bytes_beq] at e; subst e; exact h (by rw [ByteArray.toList_eq])
theorem zero_rules (w : World) : (zeroValue 66).run Tryz.prog w = .ok (.slice none 0 0) w := by simp [go_sem]
theorem rules_look (kind : ByteArray) (w w' : World) (e : Ending) (h : TableAt w e w') : ∃ v L, e = .returned (.map (some w.heap.size)) ∧ (Instr.lookup 121 (.map (some w.heap.size)) (.string kind) false).run Tryz.prog w' = .ok v w' ∧ L.map RAt.plain = rulesOf kind ∧ RulesAt w.heap.size w' v L ∧ Below w.heap.size w w' := by
  obtain ⟨vt, Lt, vb, Lb, vs, Ls, rfl, hm, ⟨pt, mt⟩, ⟨pb, mb⟩, ⟨ps, ms⟩, hb⟩ := h
  unfold rulesOf
  by_cases h1 : kind.toList = [116, 101, 97, 109]
  · rw [if_pos h1]
    exact ⟨vt, Lt, rfl, run_find Tryz.underlying121 Tryz.underlying9 hm (find_hit _ _ _ _ (same_bytes h1)), pt, mt, hb⟩
  rw [if_neg h1]
  by_cases h2 : kind.toList = [98, 101, 114, 116, 104]
  · rw [if_pos h2]
    exact ⟨vb, Lb, rfl, run_find Tryz.underlying121 Tryz.underlying9 hm ((find_skip _ _ _ _ (other_bytes h1)).trans (find_hit _ _ _ _ (same_bytes h2))), pb, mb, hb⟩
  rw [if_neg h2]
  by_cases h3 : kind.toList = [115, 101, 114, 118, 105, 99, 101]
  · rw [if_pos h3]
    exact ⟨vs, Ls, rfl, run_find Tryz.underlying121 Tryz.underlying9 hm ((find_skip _ _ _ _ (other_bytes h1)).trans ((find_skip _ _ _ _ (other_bytes h2)).trans (find_hit _ _ _ _ (same_bytes h3)))), ps, ms, hb⟩
  rw [if_neg h3]
  exact ⟨_, [], rfl, run_find_not Tryz.underlying121 Tryz.underlying9 (zero_rules w') hm ((find_skip _ _ _ _ (other_bytes h1)).trans ((find_skip _ _ _ _ (other_bytes h2)).trans ((find_skip _ _ _ _ (other_bytes h3)).trans (find_nil _ _)))), rfl,
    ⟨fun r hr => by rw [List.mem_singleton.1 hr]; exact World.ownsRow_nil _ _ _ _, by simp⟩, hb⟩
set_option maxHeartbeats 1000000 in
set_option maxRecDepth 100000 in
theorem implRules_any (kind : ByteArray) (w : World) : Calls Tryz.prog 25 #[.string kind] w fun e w' => RulesPost (rulesOf kind) w e w' := by
  go_enter Tryz.func25, Tryz.ntmps25
  go_wp2_with (go_at_call 62; refine (ruleTable_any w).mono ?_)
  intro e w1 h
  obtain ⟨v, L, rfl, hlk, hp, hr, hb⟩ := rules_look kind w w1 e h
  clear h
  go_wp2
  go_ret
  exact ⟨v, L, rfl, hp, hr, hb⟩
end Go.Proofs.YtlaejmehgaeobabGreatDoor
