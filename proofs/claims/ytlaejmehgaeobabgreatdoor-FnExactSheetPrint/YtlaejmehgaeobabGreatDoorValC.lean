import Derived.Test.YtlaejmehgaeobabGreatDoorValB
namespace Go.Proofs.YtlaejmehgaeobabGreatDoor
open Go.RowKit
/-- No element is ahead of the one before it. -/
def Desc {α : Type} (lt : α → α → Bool) (ls : List α) : Prop := ∀ i a b, ls[i]? = some a → ls[i + 1]? = some b → lt b a = false
def DescFrom {α : Type} (lt : α → α → Bool) (ls : List α) (k : Nat) : Prop := ∀ i, k ≤ i → ∀ a b, ls[i]? = some a → ls[i + 1]? = some b → lt b a = false
open Classical in
noncomputable def descB {α : Type} (lt : α → α → Bool) (ls : List α) : Bool := decide (Desc lt ls)
theorem DescFrom.last {α : Type} (lt : α → α → Bool) (ls : List α) (k : Nat) (h : ls.length ≤ k + 1) : DescFrom lt ls k := by
  intro i hi a b _ hb
  have := (List.getElem?_eq_some_iff.1 hb).1
  omega
theorem DescFrom.down {α : Type} {lt : α → α → Bool} {ls : List α} {k : Nat} {a b : α} (h : DescFrom lt ls (k + 1)) (ha : ls[k]? = some a) (hb : ls[k + 1]? = some b) (hn : lt b a = false) : DescFrom lt ls k := by
  intro i hi x y hx hy
  by_cases e : i = k
  · subst e
    rw [ha] at hx; rw [hb] at hy; cases hx; cases hy; exact hn
  · exact h i (by omega) x y hx hy
open Classical in
theorem DescFrom.all {α : Type} {lt : α → α → Bool} {ls : List α} (h : DescFrom lt ls 0) : true = descB lt ls := by
  unfold descB
  rw [decide_eq_true]
  exact fun i a b ha hb => h i (Nat.zero_le _) a b ha hb
open Classical in
theorem desc_no {α : Type} {lt : α → α → Bool} {ls : List α} {k : Nat} {a b : α} (ha : ls[k]? = some a) (hb : ls[k + 1]? = some b) (hn : lt b a = true) : false = descB lt ls := by
  unfold descB
  rw [decide_eq_false]
  intro h
  rw [h k a b ha hb] at hn
  cases hn
theorem split2 {α : Type} (L : List α) (k : Nat) (h : k + 1 < L.length) : ∃ D r s T, L = D ++ r :: s :: T ∧ D.length = k := by
  obtain ⟨D, r, T, rfl, hD⟩ := split1 L k (by omega)
  match T, h with
  | [], h => simp at h; omega
  | s :: T, _ => exact ⟨D, r, s, T, rfl, hD⟩
theorem two_at {α : Type} (D T : List α) (r s : α) : (D ++ r :: s :: T)[D.length]? = some r ∧ (D ++ r :: s :: T)[D.length + 1]? = some s := by
  constructor
  · simp
  · rw [List.getElem?_append_right (by omega)]; simp
theorem HasRow.block2 {w : World} {ao : Option Addr} {n m cap : Nat} {D T : List BAt} {x y : BAt} (h : HasRow w (.slice ao m cap) n 3 ((D ++ x :: y :: T).flatMap BAt.cells)) : ∃ b off, ao = some ⟨b, off, none⟩ ∧ (w.cell? ⟨b, off + D.length * 3, none⟩ = some (.string x.kind) ∧ w.cell? ⟨b, off + D.length * 3 + 1, none⟩ = some (.string x.name) ∧ w.cell? ⟨b, off + D.length * 3 + 2, none⟩ = some x.v) ∧ w.cell? ⟨b, off + (D.length + 1) * 3, none⟩ = some (.string y.kind) ∧ w.cell? ⟨b, off + (D.length + 1) * 3 + 1, none⟩ = some (.string y.name) ∧ w.cell? ⟨b, off + (D.length + 1) * 3 + 2, none⟩ = some y.v := by
  obtain ⟨b, off, rfl, h1⟩ := h.block
  have h' : HasRow w (.slice (some ⟨b, off, none⟩) m cap) n 3 (((D ++ [x]) ++ y :: T).flatMap BAt.cells) := by rw [List.append_assoc]; exact h
  obtain ⟨b', off', e, h2⟩ := h'.block
  cases e
  rw [List.length_append, List.length_singleton] at h2
  exact ⟨b, off, rfl, h1, h2⟩
theorem sorted_keep {W0 W W1 : World} {a1 a2 a3 a4 a5 a6 : Addr} {v1 v2 v3 v4 v5 v6 : Value} (hS : Grown W0 W ∧ W.cell? a1 = some v1 ∧ W.cell? a2 = some v2 ∧ W.cell? a3 = some v3 ∧ W.cell? a4 = some v4 ∧ W.cell? a5 = some v5 ∧ W.cell? a6 = some v6) (G : Grown W W1) :
    Grown W0 W1 ∧ W1.cell? a1 = some v1 ∧ W1.cell? a2 = some v2 ∧ W1.cell? a3 = some v3 ∧ W1.cell? a4 = some v4 ∧ W1.cell? a5 = some v5 ∧ W1.cell? a6 = some v6 := by
  obtain ⟨h0, h1, h2, h3, h4, h5, h6⟩ := hS
  have kc : ∀ {a : Addr} {u : Value}, W.cell? a = some u → W1.cell? a = some u := fun hc => (G.1.cell (World.block_lt_of_cell? W _ hc)).trans hc
  exact ⟨h0.trans G, kc h1, kc h2, kc h3, kc h4, kc h5, kc h6⟩
theorem lt_cmp_true {c : Int} {B : Bool} (h : c < 0 ↔ B = true) (hb : B = true) : c < 0 := h.2 hb
theorem lt_cmp_false {c : Int} {B : Bool} (h : c < 0 ↔ B = true) (hb : B = false) : ¬ c < 0 := fun q => by rw [h.1 q] at hb; cases hb
set_option maxHeartbeats 4000000 in
set_option maxRecDepth 100000 in
theorem sortedBlocks_any {v : Value} {bs : List BAt} {w : World} (hb : BlocksIn w v bs) (hl : bs.length ≤ 1048576) : Calls Tryz.prog 75 #[v, .func (.func 27) #[] #[]] w fun e w' => e = .returned (.bool (descB blockLt (bs.map BAt.plain))) ∧ Grown w w' := by
  obtain ⟨ao, cap, rfl⟩ := hb.1.form
  generalize hnn : bs.length = n at *
  have hN := hid_in hnn
  generalize hPL : bs.map BAt.plain = PL
  have hP := hid_in hPL
  clear hnn hPL
  go_enter Tryz.func75, Tryz.ntmps75
  go_wp2
  go_loopw [5] (fun i wr => ∃ z : Int, -1 ≤ z ∧ z < (n : Int) ∧ i = .int .i64 z ∧ Grown w wr ∧ DescFrom blockLt PL z.toNat) (fun i _ => (intOf i + 1).toNat)
  case atStart => exact ⟨(n : Int) - 1, by omega, by omega, by go_num, Grown.refl _, DescFrom.last _ _ _ (by have := hN.out; rw [← hP.out]; simp; omega)⟩
  case round =>
    obtain ⟨z, hz1, hz2, rfl, G, hA⟩ := hrel
    by_cases hlt : 0 < z
    · obtain ⟨k, rfl⟩ : ∃ k : Nat, z = (k : Int) + 1 := ⟨(z - 1).toNat, by omega⟩
      have hk : k + 1 < bs.length := by have := hN.out; omega
      obtain ⟨D, r, s, T, rfl, hD⟩ := split2 bs k hk
      obtain ⟨g, off, rfl, ⟨c1, c2, c3⟩, d1, d2, d3⟩ := (hb.below G.1).1.block2
      obtain ⟨a1, q1, e1⟩ := (hb.2 r (by simp)).1.form
      obtain ⟨a2, q2, e2⟩ := (hb.2 s (by simp)).1.form
      have hrs := two_at (D.map BAt.plain) (T.map BAt.plain) r.plain s.plain
      rw [show D.map BAt.plain ++ r.plain :: s.plain :: T.map BAt.plain = PL from by rw [← hP.out]; simp, List.length_map, hD] at hrs
      rw [hD] at c1 c2 c3 d1 d2 d3
      have hcmp := blockCmp_lt s.plain r.plain
      rw [e1] at c3
      rw [e2] at d3
      have H := fun W => compareBlocks_any s.kind s.name r.kind r.name s.ls.length r.ls.length q2 q1 a2 a1 W
      rw [show blockCmp s.plain.kind s.plain.name r.plain.kind r.plain.name = blockCmp s.kind s.name r.kind r.name from rfl] at hcmp
      rw [show ((k : Int) + 1).toNat = k + 1 from by omega] at hA
      have hS : Grown w wr ∧ wr.cell? ⟨g, off + k * 3, none⟩ = some (.string r.kind) ∧ wr.cell? ⟨g, off + k * 3 + 1, none⟩ = some (.string r.name) ∧ wr.cell? ⟨g, off + k * 3 + 2, none⟩ = some (.slice a1 r.ls.length q1) ∧ wr.cell? ⟨g, off + (k + 1) * 3, none⟩ = some (.string s.kind) ∧ wr.cell? ⟨g, off + (k + 1) * 3 + 1, none⟩ = some (.string s.name) ∧ wr.cell? ⟨g, off + (k + 1) * 3 + 2, none⟩ = some (.slice a2 s.ls.length q2) := ⟨G, c1, c2, c3, d1, d2, d3⟩
      have hdn : blockLt s.plain r.plain = false → DescFrom blockLt PL k := fun h => hA.down hrs.1 hrs.2 h
      have hno : blockLt s.plain r.plain = true → false = descB blockLt PL := fun h => desc_no hrs.1 hrs.2 h
      clear hrs hA hb hk c1 c2 c3 d1 d2 d3 e1 e2 hN hP hD
      generalize r.kind = rk at *
      generalize r.name = rn at *
      generalize r.ls.length = nr at *
      generalize s.kind = sk at *
      generalize s.name = sn at *
      generalize s.ls.length = ns at *
      generalize blockCmp sk sn rk rn = cr at *
      have i0 : (0 : Int) ≤ (k : Int) := by omega
      have i1 : (k : Int) < (n : Int) := by omega
      have i2 : (0 : Int) ≤ (k : Int) + 1 := by omega
      have i3 : (k : Int) + 1 < (n : Int) := by omega
      have i4 : IntKind.i64.wrap (k : Int) = (k : Int) := by rw [IntKind.wrap_i64]; omega
      have i5 : ((k : Int) + 1).toNat = k + 1 := by omega
      cases hlv : blockLt s.plain r.plain
      · have HD := hdn hlv
        have hc : ¬ cr < 0 := lt_cmp_false hcmp hlv
        clear hdn hno hcmp hlv
        go_wp2
        go_region_held3 (fun W' => Grown w W' ∧ W'.cell? ⟨g, off + k * 3, none⟩ = some (.string rk) ∧ W'.cell? ⟨g, off + k * 3 + 1, none⟩ = some (.string rn) ∧ W'.cell? ⟨g, off + k * 3 + 2, none⟩ = some (.slice a1 nr q1) ∧ W'.cell? ⟨g, off + (k + 1) * 3, none⟩ = some (.string sk) ∧ W'.cell? ⟨g, off + (k + 1) * 3 + 1, none⟩ = some (.string sn) ∧ W'.cell? ⟨g, off + (k + 1) * 3 + 2, none⟩ = some (.slice a2 ns q2))
          (first | assumption | exact sorted_keep (by assumption) (Grown.drew1 _) | exact sorted_keep (by assumption) (by assumption))
          (first | (go_at_call 27; refine (H _).mono ?_; rintro e wx ⟨rfl, Gx⟩))
        all_goals
          rename_i hQ
          have G1 := hQ.1
          clear hQ hS Gx H
          go_wp2
          go_roundw
          case rel => exact ⟨(k : Int), by omega, by omega, by go_num, G1, HD⟩
          case measure => simp [intOf]; omega
      · have HD := hid_in (hno hlv)
        have hc : cr < 0 := lt_cmp_true hcmp hlv
        clear hdn hno hcmp hlv
        go_wp2
        go_region_held3 (fun W' => Grown w W' ∧ W'.cell? ⟨g, off + k * 3, none⟩ = some (.string rk) ∧ W'.cell? ⟨g, off + k * 3 + 1, none⟩ = some (.string rn) ∧ W'.cell? ⟨g, off + k * 3 + 2, none⟩ = some (.slice a1 nr q1) ∧ W'.cell? ⟨g, off + (k + 1) * 3, none⟩ = some (.string sk) ∧ W'.cell? ⟨g, off + (k + 1) * 3 + 1, none⟩ = some (.string sn) ∧ W'.cell? ⟨g, off + (k + 1) * 3 + 2, none⟩ = some (.slice a2 ns q2))
          (first | assumption | exact sorted_keep (by assumption) (Grown.drew1 _) | exact sorted_keep (by assumption) (by assumption))
          (first | (go_at_call 27; refine (H _).mono ?_; rintro e wx ⟨rfl, Gx⟩))
        all_goals
          rename_i hQ
          have G1 := hQ.1
          clear hQ hS Gx H
          go_wp2
          go_ret
          exact ⟨ret_bool HD.out, G1⟩
    · have HA := hid_in (show true = descB blockLt PL from DescFrom.all (by rw [show z.toNat = 0 from by omega] at hA; exact hA))
      clear hA hb
      go_wp2
      go_ret
      exact ⟨ret_bool HA.out, G⟩
theorem HasRow.line2 {w : World} {ao : Option Addr} {n m cap : Nat} {D T : List LAt} {x y : LAt} (h : HasRow w (.slice ao m cap) n 2 ((D ++ x :: y :: T).flatMap LAt.cells)) : ∃ b off, ao = some ⟨b, off, none⟩ ∧ (w.cell? ⟨b, off + D.length * 2, none⟩ = some (.string x.key) ∧ w.cell? ⟨b, off + D.length * 2 + 1, none⟩ = some x.v) ∧ w.cell? ⟨b, off + (D.length + 1) * 2, none⟩ = some (.string y.key) ∧ w.cell? ⟨b, off + (D.length + 1) * 2 + 1, none⟩ = some y.v := by
  obtain ⟨b, off, rfl, h1⟩ := h.line
  have h' : HasRow w (.slice (some ⟨b, off, none⟩) m cap) n 2 (((D ++ [x]) ++ y :: T).flatMap LAt.cells) := by rw [List.append_assoc]; exact h
  obtain ⟨b', off', e, h2⟩ := h'.line
  cases e
  rw [List.length_append, List.length_singleton] at h2
  exact ⟨b, off, rfl, h1, h2⟩
theorem sorted_keep2 {W0 W W1 : World} {a1 a2 a3 a4 : Addr} {v1 v2 v3 v4 : Value} (hS : Grown W0 W ∧ W.cell? a1 = some v1 ∧ W.cell? a2 = some v2 ∧ W.cell? a3 = some v3 ∧ W.cell? a4 = some v4) (G : Grown W W1) :
    Grown W0 W1 ∧ W1.cell? a1 = some v1 ∧ W1.cell? a2 = some v2 ∧ W1.cell? a3 = some v3 ∧ W1.cell? a4 = some v4 := by
  obtain ⟨h0, h1, h2, h3, h4⟩ := hS
  have kc : ∀ {a : Addr} {u : Value}, W.cell? a = some u → W1.cell? a = some u := fun hc => (G.1.cell (World.block_lt_of_cell? W _ hc)).trans hc
  exact ⟨h0.trans G, kc h1, kc h2, kc h3, kc h4⟩
set_option maxHeartbeats 4000000 in
set_option maxRecDepth 100000 in
theorem sortedLines_any {v vr : Value} {RL : List RAt} {ls : List LAt} (gr : Nat) {w : World} (hb : LinesIn w v ls) (hl : ls.length ≤ 1048576) (hw : ∀ x ∈ ls, x.ws.length ≤ 1048576) (hr : RulesIn w vr RL) (h12 : RL.length ≤ 12) (hgr : w.cell? ⟨gr, 0, none⟩ = some vr) : Calls Tryz.prog 125 #[v, .func (.func 57) #[] #[.pointer (some ⟨gr, 0, none⟩)]] w fun e w' => e = .returned (.bool (descB (lineLt (RL.map RAt.plain)) (ls.map LAt.plain))) ∧ Grown w w' := by
  obtain ⟨ao, cap, rfl⟩ := hb.1.form
  generalize hnn : ls.length = n at *
  have hN := hid_in hnn
  generalize hPL : ls.map LAt.plain = PL
  have hP := hid_in hPL
  clear hnn hPL
  go_enter Tryz.func125, Tryz.ntmps125
  go_wp2
  go_loopw [5] (fun i wr => ∃ z : Int, -1 ≤ z ∧ z < (n : Int) ∧ i = .int .i64 z ∧ Grown w wr ∧ DescFrom (lineLt (RL.map RAt.plain)) PL z.toNat) (fun i _ => (intOf i + 1).toNat)
  case atStart => exact ⟨(n : Int) - 1, by omega, by omega, by go_num, Grown.refl _, DescFrom.last _ _ _ (by have := hN.out; rw [← hP.out]; simp; omega)⟩
  case round =>
    obtain ⟨z, hz1, hz2, rfl, G, hA⟩ := hrel
    by_cases hlt : 0 < z
    · obtain ⟨k, rfl⟩ : ∃ k : Nat, z = (k : Int) + 1 := ⟨(z - 1).toNat, by omega⟩
      have hk : k + 1 < ls.length := by have := hN.out; omega
      obtain ⟨D, r, s, T, rfl, hD⟩ := split2 ls k hk
      obtain ⟨g, off, rfl, ⟨c1, c2⟩, d1, d2⟩ := (hb.below G.1).1.line2
      obtain ⟨a1, q1, e1⟩ := (hb.2 r (by simp)).form
      obtain ⟨a2, q2, e2⟩ := (hb.2 s (by simp)).form
      have hrs := two_at (D.map LAt.plain) (T.map LAt.plain) r.plain s.plain
      rw [show D.map LAt.plain ++ r.plain :: s.plain :: T.map LAt.plain = PL from by rw [← hP.out]; simp, List.length_map, hD] at hrs
      rw [hD] at c1 c2 d1 d2
      have hcmp := lineCmp_lt (RL.map RAt.plain) s.plain r.plain
      rw [e1] at c2
      rw [e2] at d2
      have H : ∀ W, Grown w W → Calls Tryz.prog 57 #[.agg #[.string s.key, .slice a2 s.ws.length q2], .agg #[.string r.key, .slice a1 r.ws.length q1], .pointer (some ⟨gr, 0, none⟩)] W fun e w' => e = .returned (.int .i64 (lineCmp (RL.map RAt.plain) s.plain r.plain)) ∧ Grown W w' :=
        fun W gW => lineOrder_any s.plain r.plain gr (hr.below gW.1) h12 ((gW.1.cell (World.block_lt_of_cell? w _ hgr)).trans hgr) (e2 ▸ (hb.2 s (by simp)).below gW.1) (e1 ▸ (hb.2 r (by simp)).below gW.1) (hw s (by simp)) (hw r (by simp))
      rw [show ((k : Int) + 1).toNat = k + 1 from by omega] at hA
      have hS : Grown w wr ∧ wr.cell? ⟨g, off + k * 2, none⟩ = some (.string r.key) ∧ wr.cell? ⟨g, off + k * 2 + 1, none⟩ = some (.slice a1 r.ws.length q1) ∧ wr.cell? ⟨g, off + (k + 1) * 2, none⟩ = some (.string s.key) ∧ wr.cell? ⟨g, off + (k + 1) * 2 + 1, none⟩ = some (.slice a2 s.ws.length q2) := ⟨G, c1, c2, d1, d2⟩
      have hdn : (lineLt (RL.map RAt.plain)) s.plain r.plain = false → DescFrom (lineLt (RL.map RAt.plain)) PL k := fun h => hA.down hrs.1 hrs.2 h
      have hno : (lineLt (RL.map RAt.plain)) s.plain r.plain = true → false = descB (lineLt (RL.map RAt.plain)) PL := fun h => desc_no hrs.1 hrs.2 h
      clear hrs hA hb hk c1 c2 d1 d2 e1 e2 hN hP hD hr hgr hw h12
      generalize r.key = rk at *
      generalize r.ws.length = nr at *
      generalize s.key = sk at *
      generalize s.ws.length = ns at *
      generalize lineCmp (RL.map RAt.plain) s.plain r.plain = cr at *
      have i0 : (0 : Int) ≤ (k : Int) := by omega
      have i1 : (k : Int) < (n : Int) := by omega
      have i2 : (0 : Int) ≤ (k : Int) + 1 := by omega
      have i3 : (k : Int) + 1 < (n : Int) := by omega
      have i4 : IntKind.i64.wrap (k : Int) = (k : Int) := by rw [IntKind.wrap_i64]; omega
      have i5 : ((k : Int) + 1).toNat = k + 1 := by omega
      cases hlv : (lineLt (RL.map RAt.plain)) s.plain r.plain
      · have HD := hdn hlv
        have hc : ¬ cr < 0 := lt_cmp_false hcmp hlv
        clear hdn hno hcmp hlv
        go_wp2
        go_region_held3 (fun W' => Grown w W' ∧ W'.cell? ⟨g, off + k * 2, none⟩ = some (.string rk) ∧ W'.cell? ⟨g, off + k * 2 + 1, none⟩ = some (.slice a1 nr q1) ∧ W'.cell? ⟨g, off + (k + 1) * 2, none⟩ = some (.string sk) ∧ W'.cell? ⟨g, off + (k + 1) * 2 + 1, none⟩ = some (.slice a2 ns q2))
          (first | assumption | exact sorted_keep2 (by assumption) (Grown.drew1 _) | exact sorted_keep2 (by assumption) (by assumption))
          (first | (go_at_call 57; refine (H _ (And.left (by assumption))).mono ?_; rintro e wx ⟨rfl, Gx⟩))
        all_goals
          rename_i hQ
          have G1 := hQ.1
          clear hQ hS Gx H
          go_wp2
          go_roundw
          case rel => exact ⟨(k : Int), by omega, by omega, by go_num, G1, HD⟩
          case measure => simp [intOf]; omega
      · have HD := hid_in (hno hlv)
        have hc : cr < 0 := lt_cmp_true hcmp hlv
        clear hdn hno hcmp hlv
        go_wp2
        go_region_held3 (fun W' => Grown w W' ∧ W'.cell? ⟨g, off + k * 2, none⟩ = some (.string rk) ∧ W'.cell? ⟨g, off + k * 2 + 1, none⟩ = some (.slice a1 nr q1) ∧ W'.cell? ⟨g, off + (k + 1) * 2, none⟩ = some (.string sk) ∧ W'.cell? ⟨g, off + (k + 1) * 2 + 1, none⟩ = some (.slice a2 ns q2))
          (first | assumption | exact sorted_keep2 (by assumption) (Grown.drew1 _) | exact sorted_keep2 (by assumption) (by assumption))
          (first | (go_at_call 57; refine (H _ (And.left (by assumption))).mono ?_; rintro e wx ⟨rfl, Gx⟩))
        all_goals
          rename_i hQ
          have G1 := hQ.1
          clear hQ hS Gx H
          go_wp2
          go_ret
          exact ⟨ret_bool HD.out, G1⟩
    · have HA := hid_in (show true = descB (lineLt (RL.map RAt.plain)) PL from DescFrom.all (by rw [show z.toNat = 0 from by omega] at hA; exact hA))
      clear hA hb hr hgr hw
      go_wp2
      go_ret
      exact ⟨ret_bool HA.out, G⟩
end Go.Proofs.YtlaejmehgaeobabGreatDoor
