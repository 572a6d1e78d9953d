import Derived.Test.YtlaejmehgaeobabGreatDoorRulesA
namespace Go.Proofs.YtlaejmehgaeobabGreatDoor
open Go.RowKit
/-- One rule in memory: its key, its list of types, whether it may come more than once, its list of words. -/
structure RAt where
  key : ByteArray
  va : Value
  ns : List Int
  many : Bool
  vd : Value
  ds : List (List UInt8)
abbrev Plain := ByteArray × List Int × Bool × List (List UInt8)
def RAt.cells (r : RAt) : List Value := [.string r.key, r.va, .bool r.many, r.vd]
def RAt.rows (r : RAt) : List MRow := [⟨r.va, 3, 1, r.ns.length, intsV r.ns⟩, ⟨r.vd, 9, 1, r.ds.length, strs r.ds⟩]
def RAt.plain (r : RAt) : Plain := (r.key, r.ns, r.many, r.ds)
/-- A list of rules in memory. -/
def RulesAt (B : Nat) (w : World) (v : Value) (L : List RAt) : Prop := Mem B w (⟨v, 94, 4, L.length, L.flatMap RAt.cells⟩ :: L.flatMap RAt.rows)
def RulesPost (R : List Plain) (w : World) (e : Ending) (w' : World) : Prop := ∃ v L, e = .returned v ∧ L.map RAt.plain = R ∧ RulesAt w.heap.size w' v L ∧ Below w.heap.size w w'
def teamRules : List Plain := [(⟨#[99, 111, 112, 105, 101, 115]⟩, [1], false, [[49, 48, 48]]), (⟨#[114, 111, 111, 109]⟩, [1], false, [[49, 48, 48, 48]])]
def berthRules : List Plain := [(⟨#[122, 111, 110, 101]⟩, [3], false, [[122]]), (⟨#[114, 111, 111, 109]⟩, [1], false, [[49, 48, 48]]), (⟨#[104, 111, 108, 100]⟩, [1], false, [[49, 48, 48]]), (⟨#[109, 97, 114, 107]⟩, [3], true, [])]
def serviceRules : List Plain := [(⟨#[116, 101, 97, 109]⟩, [3], false, [[99, 111, 114, 101]]), (⟨#[105, 109, 97, 103, 101]⟩, [1], false, [[49]]), (⟨#[119, 97, 110, 116]⟩, [1], false, [[49]]), (⟨#[100, 111, 119, 110]⟩, [1], false, [[49]]), (⟨#[111, 118, 101, 114]⟩, [1], false, [[48]]), (⟨#[110, 101, 101, 100, 115]⟩, [1, 1], false, [[49], [49]]), (⟨#[119, 104, 101, 114, 101]⟩, [4], false, [[]]), (⟨#[108, 105, 107, 101]⟩, [4, 2], true, []), (⟨#[97, 112, 97, 114, 116]⟩, [6], false, [[110, 111, 110, 101]]), (⟨#[118, 111, 108, 117, 109, 101]⟩, [5], false, [[110, 111]]), (⟨#[102, 111, 108, 108, 111, 119]⟩, [1, 1, 1], false, [[48], [48], [48]]), (⟨#[112, 97, 99, 101]⟩, [1, 1, 1], false, [[48], [48], [48]])]
/-- The rules of a kind. -/
def rulesOf (kind : ByteArray) : List Plain := if kind.toList = [116, 101, 97, 109] then teamRules else if kind.toList = [98, 101, 114, 116, 104] then berthRules else if kind.toList = [115, 101, 114, 118, 105, 99, 101] then serviceRules else []
/-- Rules that are being made, the last one first. -/
structure Acc (w0 w : World) (L : List RAt) : Prop where
  mem : Mem w0.heap.size w (L.flatMap RAt.rows)
  below : Below w0.heap.size w0 w
theorem Acc.nil (w : World) : Acc w w [] := ⟨Mem.nil _ _, Below.refl _ _⟩
theorem Acc.call {w0 w w' : World} {L : List RAt} (h : Acc w0 w L) (key : ByteArray) (many : Bool) {va vd : Value} {n m : Nat} {ns : List Int} {ds : List (List UInt8)} (hm : Mem w.heap.size w' [⟨va, 3, 1, ns.length, intsV ns⟩, ⟨vd, 9, 1, ds.length, strs ds⟩] ∧ ns.length = n ∧ ds.length = m) (hb : Below w.heap.size w w') :
    Acc w0 w' (⟨key, va, ns, many, vd, ds⟩ :: L) :=
  ⟨h.mem.join hm.1 hb h.below.size, h.below.trans (hb.mono h.below.size)⟩
theorem Acc.done {w0 w : World} {L : List RAt} (h : Acc w0 w L) (cs : Array Value) (n : Nat) (hn : L.length = n) (hc : cs.toList = L.reverse.flatMap RAt.cells) (h0 : n ≤ 100) :
    RulesAt w0.heap.size (w.alloc (.cells cs 94)) (.slice (some ⟨w.heap.size, 0, none⟩) n n) L.reverse ∧ Below w0.heap.size w0 (w.alloc (.cells cs 94)) := by
  have hb := (Below.refl w.heap.size w).alloc (Nat.le_refl _) (.cells cs 94)
  have hl : ∀ M : List RAt, (M.flatMap RAt.cells).length = M.length * 4 := fun M => by
    induction M with
    | nil => rfl
    | cons a M ih => rw [List.flatMap_cons, List.length_append, ih]; simp [RAt.cells]; omega
  have hown := World.ownsRow_lit (base := w.heap.size) (e := 94) (size := 4) w cs n (by omega) (by unfold maxLen; omega) (by rw [← Array.length_toList, hc, hl, List.length_reverse, hn])
  refine ⟨?_, h.below.trans (hb.mono h.below.size)⟩
  have hp : Mem w0.heap.size w (L.reverse.flatMap RAt.rows) := h.mem.perm ((List.reverse_perm L).symm.flatMap_right _)
  unfold RulesAt
  refine hp.cons ?_ hb h.below.size
  unfold MRow.isAt
  simp only [List.length_reverse, hn]
  rw [← hc]; exact hown
theorem Acc.post {w0 w : World} {L : List RAt} {R : List Plain} (h : Acc w0 w L) (cs : Array Value) (n : Nat) (hn : L.length = n) (hc : cs.toList = L.reverse.flatMap RAt.cells) (hR : L.reverse.map RAt.plain = R) (h0 : n ≤ 100 := by decide) :
    RulesPost R w0 (.returned (.slice (some ⟨w.heap.size, 0, none⟩) n n)) (w.alloc (.cells cs 94)) :=
  ⟨_, _, rfl, hR, (h.done cs n hn hc h0).1, (h.done cs n hn hc h0).2⟩
theorem new_ints (w : World) (ns : List Int) (cs : Array Value) (hcs : cs.toList = intsV ns) : ∀ j u, (intsV ns)[j]? = some u → (w.alloc (.cells cs 3)).cell? ((⟨w.heap.size, 0, none⟩ : Addr).add j) = some u := by
  rw [← hcs]; exact World.news_of_block (cs := cs) (t := 3) (fr := (0, 0)) (heap_alloc_new w _)
theorem one_call (key value : ByteArray) (ns : List Int) (ds : List (List UInt8)) (w : World) (n m K : Nat) (hK : w.heap.size = K) (hn : ns.length = n) (hm : ds.length = m) (hds : spl [] value.data.toList = ds) (h0 : 0 < n) (h1 : n ≤ 100) (h2 : value.size ≤ 100) {cs : Array Value} (hcs : cs.toList = intsV ns := by rfl) :
    Calls Tryz.prog 84 #[.string key, .string value, .slice (some ⟨K, 0, none⟩) n n] (w.alloc (.cells cs 3)) fun e w' => ∃ ao ca bo cb, e = .returned (.agg #[.string key, .slice ao n ca, .bool false, .slice bo m cb]) ∧
      (Mem w.heap.size w' [⟨.slice ao n ca, 3, 1, ns.length, intsV ns⟩, ⟨.slice bo m cb, 9, 1, ds.length, strs ds⟩] ∧ ns.length = n ∧ ds.length = m) ∧ Below w.heap.size w w' := by
  subst hK hn hm hds
  refine (l2One_any key value ns w.heap.size ns.length _ rfl h0 h1 h2 (new_ints w ns cs hcs)).mono ?_
  rintro e w' ⟨ao, ca, bo, cb, rfl, hmem, hb⟩
  rw [World.size_alloc] at hmem hb
  exact ⟨ao, ca, bo, cb, rfl, ⟨hmem.mono (Nat.le_succ _), rfl, rfl⟩, ((Below.refl _ w).alloc (Nat.le_refl _) _).trans (hb.mono (Nat.le_succ _))⟩
theorem many_call (key : ByteArray) (ns : List Int) (w : World) (n K : Nat) (hK : w.heap.size = K) (hn : ns.length = n) (h0 : 0 < n) (h1 : n ≤ 100) {cs : Array Value} (hcs : cs.toList = intsV ns := by rfl) :
    Calls Tryz.prog 85 #[.string key, .slice (some ⟨K, 0, none⟩) n n] (w.alloc (.cells cs 3)) fun e w' => ∃ ao ca bo cb, e = .returned (.agg #[.string key, .slice ao n ca, .bool true, .slice bo 0 cb]) ∧
      (Mem w.heap.size w' [⟨.slice ao n ca, 3, 1, ns.length, intsV ns⟩, ⟨.slice bo 0 cb, 9, 1, ([] : List (List UInt8)).length, strs []⟩] ∧ ns.length = n ∧ ([] : List (List UInt8)).length = 0) ∧ Below w.heap.size w w' := by
  subst hK hn
  refine (l2Many_any key ns w.heap.size ns.length _ rfl h0 h1 (new_ints w ns cs hcs)).mono ?_
  rintro e w' ⟨ao, ca, bo, cb, rfl, hmem, hb⟩
  rw [World.size_alloc] at hmem hb
  exact ⟨ao, ca, bo, cb, rfl, ⟨hmem.mono (Nat.le_succ _), rfl, rfl⟩, ((Below.refl _ w).alloc (Nat.le_refl _) _).trans (hb.mono (Nat.le_succ _))⟩
set_option maxHeartbeats 1000000 in
set_option maxRecDepth 100000 in
theorem specRules_team (kind : ByteArray) (w : World) (hk1 : (kind.toList == [116, 101, 97, 109]) = true) : Calls Tryz.prog 45 #[.string kind] w fun e w' => RulesPost teamRules w e w' := by
    have a0 := Acc.nil w
    go_enter Tryz.func45, Tryz.ntmps45
    go_wp2_with (go_at_call 84; refine (one_call ⟨#[99, 111, 112, 105, 101, 115]⟩ ⟨#[49, 48, 48]⟩ [1] [[49, 48, 48]] w 1 1 w.heap.size rfl rfl rfl rfl (by decide) (by decide) (by decide)).mono ?_)
    rintro e w1 ⟨ao1, ca1, bo1, cb1, rfl, m1, b1⟩
    have a1 := a0.call ⟨#[99, 111, 112, 105, 101, 115]⟩ false m1 b1
    clear a0 m1 b1
    go_wp2_with (go_at_call 84; refine (one_call ⟨#[114, 111, 111, 109]⟩ ⟨#[49, 48, 48, 48]⟩ [1] [[49, 48, 48, 48]] w1 1 1 w1.heap.size rfl rfl rfl rfl (by decide) (by decide) (by decide)).mono ?_)
    rintro e w2 ⟨ao2, ca2, bo2, cb2, rfl, m2, b2⟩
    have a2 := a1.call ⟨#[114, 111, 111, 109]⟩ false m2 b2
    clear a1 m2 b2
    go_wp2
    go_ret
    exact a2.post _ 2 rfl rfl rfl
set_option maxHeartbeats 1000000 in
set_option maxRecDepth 100000 in
theorem specRules_berth (kind : ByteArray) (w : World) (hk1 : (kind.toList == [116, 101, 97, 109]) = false) (hk2 : (kind.toList == [98, 101, 114, 116, 104]) = true) : Calls Tryz.prog 45 #[.string kind] w fun e w' => RulesPost berthRules w e w' := by
    have a0 := Acc.nil w
    go_enter Tryz.func45, Tryz.ntmps45
    go_wp2_with (go_at_call 84; refine (one_call ⟨#[122, 111, 110, 101]⟩ ⟨#[122]⟩ [3] [[122]] w 1 1 w.heap.size rfl rfl rfl rfl (by decide) (by decide) (by decide)).mono ?_)
    rintro e w1 ⟨ao1, ca1, bo1, cb1, rfl, m1, b1⟩
    have a1 := a0.call ⟨#[122, 111, 110, 101]⟩ false m1 b1
    clear a0 m1 b1
    go_wp2_with (go_at_call 84; refine (one_call ⟨#[114, 111, 111, 109]⟩ ⟨#[49, 48, 48]⟩ [1] [[49, 48, 48]] w1 1 1 w1.heap.size rfl rfl rfl rfl (by decide) (by decide) (by decide)).mono ?_)
    rintro e w2 ⟨ao2, ca2, bo2, cb2, rfl, m2, b2⟩
    have a2 := a1.call ⟨#[114, 111, 111, 109]⟩ false m2 b2
    clear a1 m2 b2
    go_wp2_with (go_at_call 84; refine (one_call ⟨#[104, 111, 108, 100]⟩ ⟨#[49, 48, 48]⟩ [1] [[49, 48, 48]] w2 1 1 w2.heap.size rfl rfl rfl rfl (by decide) (by decide) (by decide)).mono ?_)
    rintro e w3 ⟨ao3, ca3, bo3, cb3, rfl, m3, b3⟩
    have a3 := a2.call ⟨#[104, 111, 108, 100]⟩ false m3 b3
    clear a2 m3 b3
    go_wp2_with (go_at_call 85; refine (many_call ⟨#[109, 97, 114, 107]⟩ [3] w3 1 w3.heap.size rfl rfl (by decide) (by decide)).mono ?_)
    rintro e w4 ⟨ao4, ca4, bo4, cb4, rfl, m4, b4⟩
    have a4 := a3.call ⟨#[109, 97, 114, 107]⟩ true m4 b4
    clear a3 m4 b4
    go_wp2
    go_ret
    exact a4.post _ 4 rfl rfl rfl
set_option maxHeartbeats 1000000 in
set_option maxRecDepth 100000 in
theorem specRules_service (kind : ByteArray) (w : World) (hk1 : (kind.toList == [116, 101, 97, 109]) = false) (hk2 : (kind.toList == [98, 101, 114, 116, 104]) = false) (hk3 : (kind.toList == [115, 101, 114, 118, 105, 99, 101]) = true) : Calls Tryz.prog 45 #[.string kind] w fun e w' => RulesPost serviceRules w e w' := by
    have a0 := Acc.nil w
    go_enter Tryz.func45, Tryz.ntmps45
    go_wp2_with (go_at_call 84; refine (one_call ⟨#[116, 101, 97, 109]⟩ ⟨#[99, 111, 114, 101]⟩ [3] [[99, 111, 114, 101]] w 1 1 w.heap.size rfl rfl rfl rfl (by decide) (by decide) (by decide)).mono ?_)
    rintro e w1 ⟨ao1, ca1, bo1, cb1, rfl, m1, b1⟩
    have a1 := a0.call ⟨#[116, 101, 97, 109]⟩ false m1 b1
    clear a0 m1 b1
    go_wp2_with (go_at_call 84; refine (one_call ⟨#[105, 109, 97, 103, 101]⟩ ⟨#[49]⟩ [1] [[49]] w1 1 1 w1.heap.size rfl rfl rfl rfl (by decide) (by decide) (by decide)).mono ?_)
    rintro e w2 ⟨ao2, ca2, bo2, cb2, rfl, m2, b2⟩
    have a2 := a1.call ⟨#[105, 109, 97, 103, 101]⟩ false m2 b2
    clear a1 m2 b2
    go_wp2_with (go_at_call 84; refine (one_call ⟨#[119, 97, 110, 116]⟩ ⟨#[49]⟩ [1] [[49]] w2 1 1 w2.heap.size rfl rfl rfl rfl (by decide) (by decide) (by decide)).mono ?_)
    rintro e w3 ⟨ao3, ca3, bo3, cb3, rfl, m3, b3⟩
    have a3 := a2.call ⟨#[119, 97, 110, 116]⟩ false m3 b3
    clear a2 m3 b3
    go_wp2_with (go_at_call 84; refine (one_call ⟨#[100, 111, 119, 110]⟩ ⟨#[49]⟩ [1] [[49]] w3 1 1 w3.heap.size rfl rfl rfl rfl (by decide) (by decide) (by decide)).mono ?_)
    rintro e w4 ⟨ao4, ca4, bo4, cb4, rfl, m4, b4⟩
    have a4 := a3.call ⟨#[100, 111, 119, 110]⟩ false m4 b4
    clear a3 m4 b4
    go_wp2_with (go_at_call 84; refine (one_call ⟨#[111, 118, 101, 114]⟩ ⟨#[48]⟩ [1] [[48]] w4 1 1 w4.heap.size rfl rfl rfl rfl (by decide) (by decide) (by decide)).mono ?_)
    rintro e w5 ⟨ao5, ca5, bo5, cb5, rfl, m5, b5⟩
    have a5 := a4.call ⟨#[111, 118, 101, 114]⟩ false m5 b5
    clear a4 m5 b5
    go_wp2_with (go_at_call 84; refine (one_call ⟨#[110, 101, 101, 100, 115]⟩ ⟨#[49, 32, 49]⟩ [1, 1] [[49], [49]] w5 2 2 w5.heap.size rfl rfl rfl rfl (by decide) (by decide) (by decide)).mono ?_)
    rintro e w6 ⟨ao6, ca6, bo6, cb6, rfl, m6, b6⟩
    have a6 := a5.call ⟨#[110, 101, 101, 100, 115]⟩ false m6 b6
    clear a5 m6 b6
    go_wp2_with (go_at_call 84; refine (one_call ⟨#[119, 104, 101, 114, 101]⟩ ⟨#[]⟩ [4] [[]] w6 1 1 w6.heap.size rfl rfl rfl rfl (by decide) (by decide) (by decide)).mono ?_)
    rintro e w7 ⟨ao7, ca7, bo7, cb7, rfl, m7, b7⟩
    have a7 := a6.call ⟨#[119, 104, 101, 114, 101]⟩ false m7 b7
    clear a6 m7 b7
    go_wp2_with (go_at_call 85; refine (many_call ⟨#[108, 105, 107, 101]⟩ [4, 2] w7 2 w7.heap.size rfl rfl (by decide) (by decide)).mono ?_)
    rintro e w8 ⟨ao8, ca8, bo8, cb8, rfl, m8, b8⟩
    have a8 := a7.call ⟨#[108, 105, 107, 101]⟩ true m8 b8
    clear a7 m8 b8
    go_wp2_with (go_at_call 84; refine (one_call ⟨#[97, 112, 97, 114, 116]⟩ ⟨#[110, 111, 110, 101]⟩ [6] [[110, 111, 110, 101]] w8 1 1 w8.heap.size rfl rfl rfl rfl (by decide) (by decide) (by decide)).mono ?_)
    rintro e w9 ⟨ao9, ca9, bo9, cb9, rfl, m9, b9⟩
    have a9 := a8.call ⟨#[97, 112, 97, 114, 116]⟩ false m9 b9
    clear a8 m9 b9
    go_wp2_with (go_at_call 84; refine (one_call ⟨#[118, 111, 108, 117, 109, 101]⟩ ⟨#[110, 111]⟩ [5] [[110, 111]] w9 1 1 w9.heap.size rfl rfl rfl rfl (by decide) (by decide) (by decide)).mono ?_)
    rintro e w10 ⟨ao10, ca10, bo10, cb10, rfl, m10, b10⟩
    have a10 := a9.call ⟨#[118, 111, 108, 117, 109, 101]⟩ false m10 b10
    clear a9 m10 b10
    go_wp2_with (go_at_call 84; refine (one_call ⟨#[102, 111, 108, 108, 111, 119]⟩ ⟨#[48, 32, 48, 32, 48]⟩ [1, 1, 1] [[48], [48], [48]] w10 3 3 w10.heap.size rfl rfl rfl rfl (by decide) (by decide) (by decide)).mono ?_)
    rintro e w11 ⟨ao11, ca11, bo11, cb11, rfl, m11, b11⟩
    have a11 := a10.call ⟨#[102, 111, 108, 108, 111, 119]⟩ false m11 b11
    clear a10 m11 b11
    go_wp2_with (go_at_call 84; refine (one_call ⟨#[112, 97, 99, 101]⟩ ⟨#[48, 32, 48, 32, 48]⟩ [1, 1, 1] [[48], [48], [48]] w11 3 3 w11.heap.size rfl rfl rfl rfl (by decide) (by decide) (by decide)).mono ?_)
    rintro e w12 ⟨ao12, ca12, bo12, cb12, rfl, m12, b12⟩
    have a12 := a11.call ⟨#[112, 97, 99, 101]⟩ false m12 b12
    clear a11 m12 b12
    go_wp2
    go_ret
    exact a12.post _ 12 rfl rfl rfl
set_option maxHeartbeats 1000000 in
set_option maxRecDepth 100000 in
theorem specRules_none (kind : ByteArray) (w : World) (hk1 : (kind.toList == [116, 101, 97, 109]) = false) (hk2 : (kind.toList == [98, 101, 114, 116, 104]) = false) (hk3 : (kind.toList == [115, 101, 114, 118, 105, 99, 101]) = false) : Calls Tryz.prog 45 #[.string kind] w fun e w' => RulesPost [] w e w' := by
  go_enter Tryz.func45, Tryz.ntmps45
  go_wp2
  go_ret
  refine ⟨_, [], rfl, rfl, ?_, (Below.refl _ w).alloc (Nat.le_refl _) _⟩
  exact (Mem.nil _ w).cons (r := ⟨_, _, _, _, _⟩) (World.ownsRow_lit (base := w.heap.size) (e := 94) (size := 4) w #[] 0 (Nat.le_refl _) (by decide) rfl) ((Below.refl _ w).alloc (Nat.le_refl _) _) (Nat.le_refl _)
theorem specRules_any (kind : ByteArray) (w : World) : Calls Tryz.prog 45 #[.string kind] w fun e w' => RulesPost (rulesOf kind) w e w' := by
  unfold rulesOf
  by_cases h1 : kind.toList = [116, 101, 97, 109]
  · rw [if_pos h1]; exact specRules_team kind w (beq_iff_eq.2 h1)
  rw [if_neg h1]
  by_cases h2 : kind.toList = [98, 101, 114, 116, 104]
  · rw [if_pos h2]; exact specRules_berth kind w (beq_eq_false_iff_ne.2 h1) (beq_iff_eq.2 h2)
  rw [if_neg h2]
  by_cases h3 : kind.toList = [115, 101, 114, 118, 105, 99, 101]
  · rw [if_pos h3]; exact specRules_service kind w (beq_eq_false_iff_ne.2 h1) (beq_eq_false_iff_ne.2 h2) (beq_iff_eq.2 h3)
  rw [if_neg h3]
  exact specRules_none kind w (beq_eq_false_iff_ne.2 h1) (beq_eq_false_iff_ne.2 h2) (beq_eq_false_iff_ne.2 h3)
end Go.Proofs.YtlaejmehgaeobabGreatDoor
