import Derived.Test.YtlaejmehgaeobabGreatDoorValF
namespace Go.Proofs.YtlaejmehgaeobabGreatDoor
open Go.RowKit
/-- No two rules of a kind have one key. -/
def KeysApart (R : List Plain) : Prop := (R.map fun p => p.1.toList).Nodup
theorem keysApart (kind : ByteArray) : KeysApart (rulesOf kind) := by
  unfold rulesOf KeysApart
  split
  · unfold teamRules; simp only [ByteArray.toList_eq]; decide
  · split
    · unfold berthRules; simp only [ByteArray.toList_eq]; decide
    · split
      · unfold serviceRules; simp only [ByteArray.toList_eq]; decide
      · simp
theorem place_of {R : List Plain} (h : KeysApart R) {D T : List Plain} {p : Plain} {key : ByteArray} (hR : R = D ++ p :: T) (hp : pickR R key = some p) : placeI R key = (D.length : Int) := by
  obtain ⟨i, hi, hg, hk⟩ := pick_place hp
  rw [hi]
  have h1 : R[D.length]? = some p := by rw [hR]; simp
  have hi' := (List.getElem?_eq_some_iff.1 hg).1
  have hD' := (List.getElem?_eq_some_iff.1 h1).1
  by_cases e : i = D.length
  · rw [e]
  · exfalso
    have hn := List.pairwise_iff_getElem.1 h
    have e1 := (List.getElem?_eq_some_iff.1 hg).2
    have e2 := (List.getElem?_eq_some_iff.1 h1).2
    rcases Nat.lt_or_gt_of_ne e with hlt | hlt
    · have := hn i D.length (by simpa using hi') (by simpa using hD') hlt
      simp only [List.getElem_map, e1, e2] at this
      exact this rfl
    · have := hn D.length i (by simpa using hD') (by simpa using hi') hlt
      simp only [List.getElem_map, e1, e2] at this
      exact this rfl
theorem place_none {R : List Plain} {key : ByteArray} (h : pickR R key = none) : placeI R key = -1 := by
  unfold placeI
  rw [List.findIdx?_eq_none_iff.2]
  unfold pickR at h
  intro p hp
  have := List.find?_eq_none.1 h p hp
  simpa using this
/-- What came back, and nothing old turned (behind a name, so that the walk leaves it whole). -/
def Got (v : Value) (w : World) (e : Ending) (w' : World) : Prop := e = .returned v ∧ Below w.heap.size w w'
/-- The place of a key, as the model finds it. -/
theorem l2Place_any (kind key : ByteArray) (w : World) : Calls Tryz.prog 42 #[.string kind, .string key] w fun e w' => e = .returned (.int .i64 (placeI (rulesOf kind) key)) ∧ Below w.heap.size w w' := by
  refine (l2Rule_any kind key w).mono fun e w' ⟨hb, hp⟩ => ⟨?_, hb⟩
  rcases hp with ⟨h, rfl⟩ | ⟨D, p, T, hR, h, rfl⟩
  · rw [place_none h]
  · rw [place_of (keysApart kind) hR h]
theorem lessAt {xs ys : List (List UInt8)} {k : Nat} (h : AlikeTo xs ys k) (h1 : k < xs.length) (h2 : k < ys.length) (e : (xs[k] == ys[k]) = false) : decide (xs[k] < ys[k]) = decide (xs < ys) := by
  rw [decide_eq_decide]
  unfold AlikeTo at h
  have hx : xs = xs.take k ++ xs[k] :: xs.drop (k + 1) := by rw [← List.drop_eq_getElem_cons h1, List.take_append_drop]
  have hy : ys = ys.take k ++ ys[k] :: ys.drop (k + 1) := by rw [← List.drop_eq_getElem_cons h2, List.take_append_drop]
  have hne : xs[k] ≠ ys[k] := by simpa using e
  have hpre : ∀ (p a b : List (List UInt8)), p ++ a < p ++ b ↔ a < b := by
    intro p a b
    induction p with
    | nil => rfl
    | cons c p ih =>
      rw [List.cons_append, List.cons_append, lt_cons]
      constructor
      · rintro (q | ⟨_, q⟩)
        · exact absurd q (Tot.irr _)
        · exact ih.1 q
      · exact fun q => .inr ⟨rfl, ih.2 q⟩
  generalize hX : xs[k] = X at *
  generalize hY : ys[k] = Y at *
  rw [hx, hy, h, hpre, lt_cons]
  constructor
  · exact fun q => .inl q
  · rintro (q | ⟨q, _⟩)
    · exact q
    · exact absurd q hne
theorem less_end {xs ys : List (List UInt8)} {k : Nat} (h : AlikeTo xs ys k) (hk : k = xs.length ∨ k = ys.length) (hx : k ≤ xs.length) (hy : k ≤ ys.length) : decide (xs.length < ys.length) = decide (xs < ys) := by
  rw [decide_eq_decide]
  unfold AlikeTo at h
  have e1 : xs = xs.take k ++ xs.drop k := (List.take_append_drop _ _).symm
  have e2 : ys = ys.take k ++ ys.drop k := (List.take_append_drop _ _).symm
  have hpre : ∀ (p a b : List (List UInt8)), p ++ a < p ++ b ↔ a < b := by
    intro p a b
    induction p with
    | nil => rfl
    | cons c p ih =>
      rw [List.cons_append, List.cons_append, lt_cons]
      constructor
      · rintro (q | ⟨_, q⟩)
        · exact absurd q (Tot.irr _)
        · exact ih.1 q
      · exact fun q => .inr ⟨rfl, ih.2 q⟩
  have e3 : xs < ys ↔ xs.drop k < ys.drop k := by
    conv => lhs; rw [e1, e2, h]
    exact hpre _ _ _
  rw [e3]
  have lx : (xs.drop k).length = xs.length - k := List.length_drop
  have ly : (ys.drop k).length = ys.length - k := List.length_drop
  cases hdx : xs.drop k with
  | nil =>
    rw [hdx] at lx
    simp at lx
    cases hdy : ys.drop k with
    | nil =>
      rw [hdy] at ly
      simp at ly
      constructor
      · intro q; omega
      · intro q; exact absurd q (List.not_lt_nil _)
    | cons y l =>
      rw [hdy] at ly
      simp at ly
      exact ⟨fun _ => List.nil_lt_cons _ _, fun _ => by omega⟩
  | cons x l =>
    rw [hdx] at lx
    simp at lx
    have hky : ys.drop k = [] := List.drop_eq_nil_of_le (by omega)
    rw [hky]
    constructor
    · intro q; omega
    · intro q; exact absurd q (List.not_lt_nil _)
set_option maxHeartbeats 1000000 in
set_option maxRecDepth 100000 in
theorem l3Less_any {n m ca cb : Nat} {ao bo : Option Addr} {xs ys : List (List UInt8)} {w : World} (h1 : HasRow w (.slice ao n ca) xs.length 1 (strs xs)) (h2 : HasRow w (.slice bo m cb) ys.length 1 (strs ys)) (hn : n ≤ 1048576) (hm : m ≤ 1048576) : Calls Tryz.prog 133 #[.slice ao n ca, .slice bo m cb] w fun e w' => e = .returned (.bool (decide (xs < ys))) ∧ ∃ q, w' = w.drewN q := by
  have en := hid_in (show n = xs.length by obtain ⟨_, _, _, e, _⟩ := h1; cases e; rfl)
  have em := hid_in (show m = ys.length by obtain ⟨_, _, _, e, _⟩ := h2; cases e; rfl)
  go_enter Tryz.func133, Tryz.ntmps133
  go_wp2
  go_loopw [5] (fun i wr => ∃ k q : Nat, k ≤ n ∧ k ≤ m ∧ i = .int .i64 (k : Int) ∧ wr = w.drewN q ∧ AlikeTo xs ys k) (fun i _ => n - (intOf i).toNat)
  case atStart => exact ⟨0, 0, by omega, by omega, rfl, rfl, AlikeTo.zero _ _⟩
  case round =>
    obtain ⟨k, q, hk, hkm, rfl, rfl, hA⟩ := hrel
    by_cases hlt : k < n
    · have lk : k < xs.length := by have := en.out; omega
      by_cases hlt2 : k < m
      · have lk2 : k < ys.length := by have := em.out; omega
        obtain ⟨b, off, rfl, c1⟩ := h1.word k lk
        obtain ⟨b2, off2, rfl, c2⟩ := h2.word k lk2
        have e1 : (ByteArray.mk xs[k].toArray).toList = xs[k] := by rw [ByteArray.toList_eq]
        have e2 : (ByteArray.mk ys[k].toArray).toList = ys[k] := by rw [ByteArray.toList_eq]
        cases he : (xs[k] == ys[k])
        · have HA := hid_in (show Op.bytesLess xs[k] ys[k] = decide (xs < ys) by rw [less_eq]; exact lessAt hA lk lk2 he)
          rw [← e1, ← e2] at he HA
          generalize (⟨xs[k].toArray⟩ : ByteArray) = x at *
          generalize (⟨ys[k].toArray⟩ : ByteArray) = y at *
          clear hA h1 h2 e1 e2
          go_wp2
          go_quiet (fail)
          go_wp2
          go_quiet (fail)
          go_wp2
          go_ret
          exact ⟨ret_bool HA.out, _, by first | rfl | exact World.drewN_drewN _ _ _ | (rw [World.drewN_drewN, World.drewN_drewN])⟩
        · have HA := hA.succ lk lk2 he
          rw [← e1, ← e2] at he
          generalize (⟨xs[k].toArray⟩ : ByteArray) = x at *
          generalize (⟨ys[k].toArray⟩ : ByteArray) = y at *
          clear hA h1 h2 e1 e2
          go_wp2
          go_quiet (fail)
          go_wp2
          go_roundw
          case rel => exact ⟨k + 1, _, by omega, by omega, by go_num, by first | rfl | exact World.drewN_drewN _ _ _, HA⟩
          case measure => simp [intOf]; omega
      · have HA := hid_in (show decide (n < m) = decide (xs < ys) by rw [en.out, em.out]; exact less_end hA (.inr (by have := em.out; omega)) (by omega) (by have := em.out; omega))
        clear hA h1 h2
        go_wp2
        go_ret
        exact ⟨ret_bool HA.out, q, rfl⟩
    · have HA := hid_in (show decide (n < m) = decide (xs < ys) by rw [en.out, em.out]; exact less_end hA (.inl (by have := en.out; omega)) (by have := en.out; omega) (by have := em.out; omega))
      clear hA h1 h2
      go_wp2
      go_ret
      exact ⟨ret_bool HA.out, q, rfl⟩
set_option maxHeartbeats 2000000 in
set_option maxRecDepth 100000 in
theorem l3LineLess_any {va vb : Value} (kind : ByteArray) (a b : PLine) {w : World} (ha : HasRow w va a.ws.length 1 (strs a.ws)) (hb : HasRow w vb b.ws.length 1 (strs b.ws)) (la : a.ws.length ≤ 1048576) (lb : b.ws.length ≤ 1048576) : Calls Tryz.prog 86 #[.string kind, .agg #[.string a.key, va], .agg #[.string b.key, vb]] w fun e w' => e = .returned (.bool (lineLt (rulesOf kind) a b)) ∧ Below w.heap.size w w' := by
  obtain ⟨aa, ca, rfl⟩ := ha.form
  obtain ⟨ab, cb, rfl⟩ := hb.form
  have G := ((Below.refl w.heap.size w).alloc (Nat.le_refl _) (.cells #[.string a.key, .slice aa a.ws.length ca] 63)).alloc (by simp) (.cells #[.string b.key, .slice ab b.ws.length cb] 63)
  have hc := two_boxes (w := w) (cs := #[.string a.key, .slice aa a.ws.length ca]) (ds := #[.string b.key, .slice ab b.ws.length cb]) (T := 63) (U := 63)
  have c0 := hc.1 0
  have c1 := hc.1 1
  have d0 := hc.2 0
  have d1 := hc.2 1
  simp only [List.getElem?_toArray, List.getElem?_cons_zero, List.getElem?_cons_succ] at c0 c1 d0 d1
  clear hc
  have ha1 := ha.below G
  have hb1 := hb.below G
  have HP : ∀ key W, Calls Tryz.prog 42 #[.string kind, .string key] W fun e w' => Got (.int .i64 (placeI (rulesOf kind) key)) W e w' := fun key W => l2Place_any kind key W
  have hL := hid_in (show lineLt (rulesOf kind) a b = (decide (placeI (rulesOf kind) a.key < placeI (rulesOf kind) b.key) || (decide (placeI (rulesOf kind) a.key = placeI (rulesOf kind) b.key) && decide (a.ws < b.ws))) from rfl)
  generalize lineLt (rulesOf kind) a b = LT at *
  generalize placeI (rulesOf kind) = pl at *
  generalize hna : a.ws.length = na at *
  generalize hnb : b.ws.length = nb at *
  have hNA := hid_in hna
  have hNB := hid_in hnb
  clear ha hb hna hnb
  go_enter Tryz.func86, Tryz.ntmps86
  go_wp2_with fail
  generalize (w.alloc (.cells #[.string a.key, .slice aa na ca] 63)).alloc (.cells #[.string b.key, .slice ab nb cb] 63) = W at *
  have l1 := World.block_lt_of_cell? W _ c1
  have l2 := World.block_lt_of_cell? W _ d1
  go_wp2_with (go_at_call 42; refine (HP a.key _).mono ?_)
  rintro e w1 ⟨rfl, b1⟩
  have d0' := (b1.cell (p := ⟨w.heap.size + 1, 0, none⟩) l2).trans d0
  go_wp2_with (go_at_call 42; refine (HP b.key _).mono ?_)
  rintro e w2 ⟨rfl, b2⟩
  have b12 := b1.trans (b2.mono b1.size)
  have c1' := (b12.cell (p := ⟨w.heap.size, 1, none⟩) l1).trans c1
  have d1' := (b12.cell (p := ⟨w.heap.size + 1, 1, none⟩) l2).trans d1
  have G2 := G.trans (b12.mono G.size)
  have HL := l3Less_any (w := w2) (show HasRow _ (.slice aa na ca) a.ws.length 1 (strs a.ws) by rw [hNA.out]; exact ha1.below b12) (show HasRow _ (.slice ab nb cb) b.ws.length 1 (strs b.ws) by rw [hNB.out]; exact hb1.below b12) la lb
  clear HP ha1 hb1 b1 b2 b12 c0 c1 d0 d1 d0'
  generalize pl a.key = pa at *
  generalize pl b.key = pb at *
  by_cases h1 : pa < pb
  · have HA := hid_in (show true = LT by rw [hL.out]; simp [h1])
    clear hL HL
    go_wp2
    go_ret
    exact ⟨ret_bool HA.out, G2⟩
  · by_cases h2 : pa = pb
    · have HA := hid_in (show decide (a.ws < b.ws) = LT by rw [hL.out]; simp [h2])
      subst h2
      clear hL
      generalize decide (a.ws < b.ws) = dl at *
      go_wp2_with (go_at_call 133; refine HL.mono ?_; rintro e w3 ⟨rfl, q, rfl⟩)
      go_ret
      exact ⟨ret_bool HA.out, below_drewN G2 q⟩
    · have HA := hid_in (show decide (pa < pb) = LT by rw [hL.out]; simp [h1, h2])
      have h3 : (pa == pb) = false := by rw [beq_eq_false_iff_ne]; exact h2
      clear hL HL
      go_wp2
      go_ret
      exact ⟨ret_bool HA.out, G2⟩
set_option maxHeartbeats 2000000 in
set_option maxRecDepth 100000 in
theorem l3Ahead_any (a b : PBlock) (la lb ca cb : Nat) (aa ab : Option Addr) (w : World) : Calls Tryz.prog 41 #[.agg #[.string a.kind, .string a.name, .slice aa la ca], .agg #[.string b.kind, .string b.name, .slice ab lb cb]] w fun e w' => e = .returned (.bool (blockLt a b)) ∧ Below w.heap.size w w' := by
  have G := ((Below.refl w.heap.size w).alloc (Nat.le_refl _) (.cells #[.string a.kind, .string a.name, .slice aa la ca] 44)).alloc (by simp) (.cells #[.string b.kind, .string b.name, .slice ab lb cb] 44)
  have hc := two_boxes (w := w) (cs := #[.string a.kind, .string a.name, .slice aa la ca]) (ds := #[.string b.kind, .string b.name, .slice ab lb cb]) (T := 44) (U := 44)
  have c0 := hc.1 0
  have c1 := hc.1 1
  have d0 := hc.2 0
  have d1 := hc.2 1
  simp only [List.getElem?_toArray, List.getElem?_cons_zero, List.getElem?_cons_succ] at c0 c1 d0 d1
  clear hc
  have hL := hid_in (show blockLt a b = (decide (a.kind.toList < b.kind.toList) || (decide (a.kind.toList = b.kind.toList) && decide (a.name.toList < b.name.toList))) from rfl)
  generalize blockLt a b = LT at *
  generalize a.kind = ak at *
  generalize a.name = an at *
  generalize b.kind = bk at *
  generalize b.name = bn at *
  have e1 := less_eq ak.toList bk.toList
  by_cases h1 : ak.toList < bk.toList
  · have HA := hid_in (show true = LT by rw [hL.out]; simp [h1])
    rw [decide_eq_true h1] at e1
    clear hL h1
    go_enter Tryz.func41, Tryz.ntmps41
    go_wp2
    go_ret
    exact ⟨ret_bool HA.out, G⟩
  · rw [decide_eq_false h1] at e1
    by_cases h2 : ak.toList = bk.toList
    · have e2 : (ak.toList == bk.toList) = true := by rw [beq_iff_eq]; exact h2
      have HA := hid_in (show Op.bytesLess an.toList bn.toList = LT by rw [less_eq, hL.out, decide_eq_false h1, decide_eq_true h2]; simp)
      clear hL h1 h2
      go_enter Tryz.func41, Tryz.ntmps41
      go_wp2
      go_ret
      exact ⟨ret_bool HA.out, G⟩
    · have e2 : (ak.toList == bk.toList) = false := by rw [beq_eq_false_iff_ne]; exact h2
      have HA := hid_in (show false = LT by rw [hL.out]; simp [h1, h2])
      clear hL h1 h2
      go_enter Tryz.func41, Tryz.ntmps41
      go_wp2
      go_ret
      exact ⟨ret_bool HA.out, G⟩
end Go.Proofs.YtlaejmehgaeobabGreatDoor
