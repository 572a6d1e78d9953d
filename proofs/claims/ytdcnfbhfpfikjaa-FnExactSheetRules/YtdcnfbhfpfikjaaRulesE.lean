import Derived.Test.YtdcnfbhfpfikjaaRulesB
import Derived.Test.YtdcnfbhfpfikjaaInts
namespace Go.Proofs.Ytdcnfbhfpfikjaa
open Go.RowKit
theorem cells_len (L : List RAt) : (L.flatMap RAt.cells).length = L.length * 4 := by
  induction L with
  | nil => rfl
  | cons a M ih => rw [List.flatMap_cons, List.length_append, ih]; simp [RAt.cells]; omega
theorem cells_at (D T : List RAt) (r : RAt) (c : Nat) (hc : c < 4) : ((D ++ r :: T).flatMap RAt.cells)[D.length * 4 + c]? = r.cells[c]? := by
  rw [List.flatMap_append, List.flatMap_cons, List.getElem?_append_right (by rw [cells_len]; omega), cells_len, Nat.add_sub_cancel_left, List.getElem?_append_left (by simp [RAt.cells]; omega)]
theorem add_off (g k : Nat) : (⟨g, 0, none⟩ : Addr).add k = ⟨g, k, none⟩ := by
  unfold Addr.add; split <;> simp_all
/-- The rules' list, what they hold, and rows beside them. -/
def RM (B : Nat) (w : World) (v : Value) (C : List RAt) (rest : List MRow) : Prop := Mem B w (⟨v, 41, 4, C.length, C.flatMap RAt.cells⟩ :: (C.flatMap RAt.rows ++ rest))
theorem RulesAt.rm {B : Nat} {w : World} {v : Value} {C : List RAt} (h : RulesAt B w v C) : RM B w v C [] := by unfold RM; rw [List.append_nil]; exact h
theorem RM.rules {B : Nat} {w : World} {v : Value} {C : List RAt} {rest : List MRow} (h : RM B w v C rest) : RulesAt B w v C := (show Mem B w ((⟨v, 41, 4, C.length, C.flatMap RAt.cells⟩ :: C.flatMap RAt.rows) ++ rest) from h).left
theorem RM.cell {B g n cap : Nat} {w : World} {D T : List RAt} {r : RAt} {rest : List MRow} (h : RM B w (.slice (some ⟨g, 0, none⟩) n cap) (D ++ r :: T) rest) (c : Nat) (hc : c < 4) : w.cell? ⟨g, D.length * 4 + c, none⟩ = r.cells[c]? := by
  have h1 := (Mem.head h).cells rfl (D.length * 4 + c)
  obtain ⟨u, hu⟩ : ∃ u, r.cells[c]? = some u := ⟨_, List.getElem?_eq_getElem (by simp [RAt.cells]; omega)⟩
  rw [hu]
  rw [← add_off]; exact h1 u (by rw [cells_at D T r c hc, hu])
theorem RM.args {B : Nat} {w : World} {v : Value} {D T : List RAt} {r : RAt} {rest : List MRow} (h : RM B w v (D ++ r :: T) rest) : w.ownsRow B 3 1 r.va r.ns.length (intsV r.ns) := h.1 ⟨r.va, 3, 1, r.ns.length, intsV r.ns⟩ (by simp [RAt.rows])
theorem RM.defs {B : Nat} {w : World} {v : Value} {D T : List RAt} {r : RAt} {rest : List MRow} (h : RM B w v (D ++ r :: T) rest) : w.ownsRow B 9 1 r.vd r.ds.length (strs r.ds) := h.1 ⟨r.vd, 9, 1, r.ds.length, strs r.ds⟩ (by simp [RAt.rows])
theorem RM.below {B : Nat} {w w' : World} {v : Value} {C : List RAt} {rest : List MRow} (h : RM B w v C rest) (hb : Below w.heap.size w w') : RM B w' v C rest := Mem.below h hb
set_option maxHeartbeats 1000000 in
set_option maxRecDepth 100000 in
theorem eqRule_own {A B n m ca cb ca' cb' : Nat} {ao bo ao' bo' : Option Addr} {key : ByteArray} {many : Bool} {ns : List Int} {ds : List (List UInt8)} {w : World} (h1 : w.ownsRow A 3 1 (.slice ao n ca) n (intsV ns)) (h2 : w.ownsRow A 9 1 (.slice bo m cb) m (strs ds)) (h3 : w.ownsRow B 3 1 (.slice ao' n ca') n (intsV ns)) (h4 : w.ownsRow B 9 1 (.slice bo' m cb') m (strs ds)) (hn : n ≤ 1000) (hm : m ≤ 1000) :
    Calls Try.prog 21 #[.agg #[.string key, .slice ao n ca, .bool many, .slice bo m cb], .agg #[.string key, .slice ao' n ca', .bool many, .slice bo' m cb']] w fun e w' => e = .returned (.bool true) ∧ Below w.heap.size w w' := by
  have hk : (key.toList != key.toList) = false := by simp
  have hy : (many != many) = false := by simp
  have H1 := eqInts_own ((h1.alloc (.cells #[.string key, .slice ao n ca, .bool many, .slice bo m cb] 41)).alloc (.cells #[.string key, .slice ao' n ca', .bool many, .slice bo' m cb'] 41)) ((h3.alloc (.cells #[.string key, .slice ao n ca, .bool many, .slice bo m cb] 41)).alloc (.cells #[.string key, .slice ao' n ca', .bool many, .slice bo' m cb'] 41)) (by omega)
  have H2 := fun q => eqStrings_own (own_drewN ((h2.alloc (.cells #[.string key, .slice ao n ca, .bool many, .slice bo m cb] 41)).alloc (.cells #[.string key, .slice ao' n ca', .bool many, .slice bo' m cb'] 41)) q) (own_drewN ((h4.alloc (.cells #[.string key, .slice ao n ca, .bool many, .slice bo m cb] 41)).alloc (.cells #[.string key, .slice ao' n ca', .bool many, .slice bo' m cb'] 41)) q) (by omega)
  clear h1 h2 h3 h4
  go_enter Try.func21, Try.ntmps21
  go_wp2_with (go_at_call 31; refine H1.mono ?_)
  rintro e w' ⟨rfl, q, rfl⟩
  go_wp2_with (go_at_call 32; refine (H2 q).mono ?_)
  rintro e w' ⟨rfl, q', rfl⟩
  go_wp2
  go_ret
  exact ⟨rfl, below_drewN (((Below.refl _ w).alloc (Nat.le_refl _) _).alloc (by simp) _) (q + q')⟩
theorem split1 {α : Type} (L : List α) (j : Nat) (h : j < L.length) : ∃ D r T, L = D ++ r :: T ∧ D.length = j :=
  ⟨L.take j, L[j], L.drop (j + 1), by rw [← List.drop_eq_getElem_cons h, List.take_append_drop], by simp; omega⟩
theorem split2 {La Lb : List RAt} (hp : La.map RAt.plain = Lb.map RAt.plain) (j : Nat) (h : j < La.length) : ∃ D r T D' r' T', La = D ++ r :: T ∧ Lb = D' ++ r' :: T' ∧ D.length = j ∧ D'.length = j ∧ r.plain = r'.plain := by
  have hl : La.length = Lb.length := by simpa using congrArg List.length hp
  obtain ⟨D, r, T, e1, h1⟩ := split1 La j h
  obtain ⟨D', r', T', e2, h2⟩ := split1 Lb j (by omega)
  refine ⟨D, r, T, D', r', T', e1, e2, h1, h2, ?_⟩
  subst e1 e2
  have := congrArg (fun l => l[j]?) hp
  simp only [List.map_append, List.map_cons] at this
  rw [List.getElem?_append_right (by simp; omega), List.getElem?_append_right (by simp; omega)] at this
  simpa [h1, h2] using this
set_option maxHeartbeats 1000000 in
set_option maxRecDepth 100000 in
theorem eqRules_any {A B g h n cap cap' : Nat} {La Lb : List RAt} {w : World} (ha : RulesAt A w (.slice (some ⟨g, 0, none⟩) n cap) La) (hb : RulesAt B w (.slice (some ⟨h, 0, none⟩) n cap') Lb) (hp : La.map RAt.plain = Lb.map RAt.plain) (hn : La.length = n) (hn2 : n ≤ 1000) (hs : ∀ r ∈ La, r.ns.length ≤ 1000 ∧ r.ds.length ≤ 1000) :
    Calls Try.prog 9 #[.slice (some ⟨g, 0, none⟩) n cap, .slice (some ⟨h, 0, none⟩) n cap'] w fun e w' => e = .returned (.bool true) ∧ Below w.heap.size w w' := by
  have hn0 : ((n : Int) != (n : Int)) = false := by simp
  go_enter Try.func9, Try.ntmps9
  go_wp2
  go_loopw [5] (fun i wr => ∃ j : Nat, j ≤ n ∧ i = .int .i64 (j : Int) ∧ Below w.heap.size w wr) (fun i _ => n - (intOf i).toNat)
  case atStart => exact ⟨0, by omega, rfl, Below.refl _ _⟩
  case round =>
    obtain ⟨j, hj, rfl, hbw⟩ := hrel
    by_cases hlt : j < n
    · obtain ⟨D, ra, T, D', rb, T', rfl, rfl, hD, hD', hpl⟩ := split2 hp j (by omega)
      have ha' := ha.rm.below hbw
      have hb' := hb.rm.below hbw
      have hsr := hs ra (by simp)
      obtain ⟨key, va, ns, many, vd, ds⟩ := ra
      obtain ⟨key', va', ns', many', vd', ds'⟩ := rb
      simp only [RAt.plain, Prod.mk.injEq] at hpl
      obtain ⟨rfl, rfl, rfl, rfl⟩ := hpl
      have o1 := ha'.args
      have o2 := ha'.defs
      have o3 := hb'.args
      have o4 := hb'.defs
      have c0 := ha'.cell 0 (by decide)
      have c1 := ha'.cell 1 (by decide)
      have c2 := ha'.cell 2 (by decide)
      have c3 := ha'.cell 3 (by decide)
      have d0 := hb'.cell 0 (by decide)
      have d1 := hb'.cell 1 (by decide)
      have d2 := hb'.cell 2 (by decide)
      have d3 := hb'.cell 3 (by decide)
      simp only [RAt.cells, hD, hD', List.getElem?_cons_zero, List.getElem?_cons_succ, Nat.add_zero] at o1 o2 o3 o4 c0 c1 c2 c3 d0 d1 d2 d3 hsr
      generalize ns.length = p at *
      generalize ds.length = q at *
      obtain ⟨ao, ca, rfl, _⟩ := own_form o1
      obtain ⟨bo, cb, rfl, _⟩ := own_form o2
      obtain ⟨ao', ca', rfl, _⟩ := own_form o3
      obtain ⟨bo', cb', rfl, _⟩ := own_form o4
      have H := eqRule_own (key := key) (many := many) o1.drew o2.drew o3.drew o4.drew hsr.1 hsr.2
      have l1 := World.block_lt_of_cell? wr _ c0
      have l2 := World.block_lt_of_cell? wr _ d0
      clear ha hb ha' hb' hp hs o1 o2 o3 o4
      go_wp2
      go_region_held3 (fun W => W.cell? ⟨g, j * 4, none⟩ = some (.string key) ∧ W.cell? ⟨g, j * 4 + 1, none⟩ = some (.slice ao p ca) ∧ W.cell? ⟨g, j * 4 + 2, none⟩ = some (.bool many) ∧ W.cell? ⟨g, j * 4 + 3, none⟩ = some (.slice bo q cb) ∧ W.cell? ⟨h, j * 4, none⟩ = some (.string key) ∧ W.cell? ⟨h, j * 4 + 1, none⟩ = some (.slice ao' p ca') ∧ W.cell? ⟨h, j * 4 + 2, none⟩ = some (.bool many) ∧ W.cell? ⟨h, j * 4 + 3, none⟩ = some (.slice bo' q cb'))
        (first | go_keep | (refine ⟨(b1.cell l1).trans c0, (b1.cell l1).trans c1, (b1.cell l1).trans c2, (b1.cell l1).trans c3, (b1.cell l2).trans d0, (b1.cell l2).trans d1, (b1.cell l2).trans d2, (b1.cell l2).trans d3⟩))
        (first | (go_at_call 21; refine H.mono ?_; rintro e w1 ⟨rfl, b1⟩))
      all_goals
        go_wp2
        go_roundw
        case rel => exact ⟨j + 1, by omega, by go_num, hbw.trans (((Below.refl wr.heap.size wr).drew.trans b1).mono hbw.size)⟩
        case measure => simp [intOf]; omega
    · obtain rfl : j = n := by omega
      go_wp2
      go_ret
      exact ⟨rfl, hbw⟩
end Go.Proofs.Ytdcnfbhfpfikjaa
