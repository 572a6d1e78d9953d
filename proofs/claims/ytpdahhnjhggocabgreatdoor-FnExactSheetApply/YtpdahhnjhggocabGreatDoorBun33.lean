import Derived.Test.YtpdahhnjhggocabGreatDoorBun31
import Derived.Test.YtpdahhnjhggocabGreatDoorBun29
import Derived.Test.YtpdahhnjhggocabGreatDoorBun26
namespace Go.Proofs.YtpdahhnjhggocabGreatDoor
open Go.RowKit
def CM (B : Nat) (w : World) (v : Value) (C : List CAt) (rest : List MRow) : Prop := Mem B w (crows v C ++ rest)
theorem CM.below {B : Nat} {w w' : World} {v : Value} {C : List CAt} {rest : List MRow} (h : CM B w v C rest) (hb : Below w.heap.size w w') : CM B w' v C rest := Mem.below h hb
theorem CM.own {B : Nat} {w : World} {v : Value} {C : List CAt} {rest : List MRow} (h : CM B w v C rest) : ChangesOwn B w v C := Mem.left h
theorem CM.size {B g n cap : Nat} {w : World} {C : List CAt} {rest : List MRow} (h : CM B w (.slice (some ⟨g, 0, none⟩) n cap) C rest) (hn : C.length = n) : w.ownsRow B 131 5 (.slice (some ⟨g, 0, none⟩) n cap) n (C.flatMap CAt.cells) := by
 subst hn; exact Mem.head h
theorem CM.cell {B g n cap : Nat} {w : World} {D T : List CAt} {r : CAt} {rest : List MRow} (h : CM B w (.slice (some ⟨g, 0, none⟩) n cap) (D ++ r :: T) rest) (c : Nat) (hc : c < 5) : w.cell? ⟨g, D.length * 5 + c, none⟩ = r.cells[c]? := by
 have h1 := (Mem.head h).cells rfl (D.length * 5 + c)
 obtain ⟨u, hu⟩ : ∃ u, r.cells[c]? = some u := ⟨_, List.getElem?_eq_getElem (by simp [CAt.cells]; omega)⟩
 rw [hu]
 rw [← add_off]; exact h1 u (by rw [rowF_at _ 5 CAt.len D T r c hc, hu])
theorem CM.own_lt {B g n cap : Nat} {w : World} {C : List CAt} {rest : List MRow} (h : CM B w (.slice (some ⟨g, 0, none⟩) n cap) C rest) : B ≤ g := (Mem.lt h (List.mem_cons_self ..) (show (Value.slice (some ⟨g, 0, none⟩) n cap).ownBlock = some g from rfl)).1
theorem CM.set {B g n cap : Nat} {w : World} {D T : List CAt} {r : CAt} {rest : List MRow} (h : CM B w (.slice (some ⟨g, 0, none⟩) n cap) (D ++ r :: T) rest) (hn : (D ++ r :: T).length = n) (c : Nat) (u : Value) (r' : CAt) (hc : c < 5) (hr : r'.cells = r.cells.set c u) (hrr : r'.rows = r.rows) :
  CM B (w.setCell ⟨g, D.length * 5 + c, none⟩ u) (.slice (some ⟨g, 0, none⟩) n cap) (D ++ r' :: T) rest := by
 have hst := (h.size hn).stored (D.length * 5 + c) u
 rw [rowF_set _ 5 CAt.len D T r r' c u hc hr] at hst
 unfold CM crows at h ⊢
 have e : (D ++ r' :: T).flatMap CAt.rows = (D ++ r :: T).flatMap CAt.rows := by rw [List.flatMap_append, List.flatMap_append, List.flatMap_cons, List.flatMap_cons, hrr]
 have e2 : (D ++ r' :: T).length = (D ++ r :: T).length := by simp
 rw [e, e2]
 subst hn
 exact Mem.turn h rfl hst.1 hst.2
def besideC (v : Value) (D : List CAt) (r : CAt) (T : List CAt) (rest : List MRow) : List MRow := (⟨v, 131, 5, (D ++ r :: T).length, (D ++ r :: T).flatMap CAt.cells⟩ :: D.flatMap CAt.rows) ++ (T.flatMap CAt.rows ++ rest)
theorem besideC_perm (v : Value) (D : List CAt) (r : CAt) (T : List CAt) (rest : List MRow) : (crows v (D ++ r :: T) ++ rest).Perm (lrows r.v r.ls ++ besideC v D r T rest) := by
 have e : crows v (D ++ r :: T) ++ rest = (⟨v, 131, 5, (D ++ r :: T).length, (D ++ r :: T).flatMap CAt.cells⟩ :: D.flatMap CAt.rows) ++ (lrows r.v r.ls ++ (T.flatMap CAt.rows ++ rest)) := by
  unfold crows; rw [List.flatMap_append, List.flatMap_cons]; simp [CAt.rows]
 rw [e]
 exact List.perm_append_comm_assoc _ _ _
theorem CM.lines {B : Nat} {w : World} {v : Value} {D T : List CAt} {r : CAt} {rest : List MRow} (h : CM B w v (D ++ r :: T) rest) : LM B w r.v r.ls (besideC v D r T rest) := Mem.perm h (besideC_perm v D r T rest)
theorem CM.back {B : Nat} {w : World} {v : Value} {D T : List CAt} {r : CAt} {rest : List MRow} {ls' : List LAt} (h : LM B w r.v ls' (besideC v D r T rest)) : CM B w v (D ++ { r with ls := ls' } :: T) rest := by
 refine Mem.perm h (List.Perm.symm ?_)
 have e : besideC v D r T rest = besideC v D { r with ls := ls' } T rest := by
  unfold besideC
  rw [show (D ++ { r with ls := ls' } :: T).flatMap CAt.cells = (D ++ r :: T).flatMap CAt.cells by rw [List.flatMap_append, List.flatMap_append, List.flatMap_cons, List.flatMap_cons]; rfl, show (D ++ { r with ls := ls' } :: T).length = (D ++ r :: T).length by simp]
 rw [e]
 exact besideC_perm v D { r with ls := ls' } T rest
def markCn (k : Nat) (r : CAt) : CAt := { r with what := (k : Int), kind := ⟨(markL (k + 1)).toArray⟩, name := ⟨(markL (k + 2)).toArray⟩, key := ⟨(markL (k + 3)).toArray⟩, ls := markLs (k + 4) r.ls }
def nextC (k : Nat) (r : CAt) : Nat := endL (k + 4) r.ls
def markCs : Nat → List CAt → List CAt
 | _, [] => []
 | k, r :: L => markCn k r :: markCs (nextC k r) L
def endC : Nat → List CAt → Nat
 | k, [] => k
 | k, r :: L => endC (nextC k r) L
theorem nextC_le (k : Nat) (r : CAt) : k + 4 ≤ nextC k r := endL_le _ _
theorem endC_le : ∀ (L : List CAt) (k : Nat), k ≤ endC k L
 | [], k => Nat.le_refl _
 | r :: L, k => Nat.le_trans (by have := nextC_le k r; omega) (endC_le L (nextC k r))
theorem endC_small : ∀ (L : List CAt) (k : Nat), (∀ r ∈ L, LinesSmall r.ls) → endC k L ≤ k + 1099512676356 * L.length
 | [], k, _ => by simp [endC]
 | r :: L, k, h => by
  have h1 := h r (by simp)
  have h2 := endC_small L (nextC k r) (fun x hx => h x (by simp [hx]))
  have h3 := endL_small r.ls (k + 4) (fun x hx => (h1.2 x hx).1)
  have h4 := h1.1
  simp only [endC, List.length_cons]
  unfold nextC at h2 ⊢
  omega
def ChSmall (L : List CAt) : Prop := L.length ≤ 1048576 ∧ ∀ c ∈ L, LinesSmall c.ls
theorem endC_fits {L : List CAt} (h : ChSmall L) {k : Nat} (hk : k ≤ 2305843009213693952) : endC k L ≤ 4611686018427387904 := by
 have h1 := endC_small L k h.2
 have h2 := h.1
 omega
set_option maxHeartbeats 400000 in
theorem markChanges_zero (ao : Option Addr) (cap k : Nat) (w : World) : Calls Tryz.prog 36 #[.slice ao 0 cap, .int .i64 (k : Int)] w fun e w' => e = .returned (.int .i64 (k : Int)) ∧ w' = w := by
 go_enter Tryz.func36, Tryz.ntmps36
 go_wp2
 refine wp_loop_rounds 1 ?_
 rw [rounds_succ]
 go_wp2
 go_ret
 exact ⟨rfl, rfl⟩
set_option maxHeartbeats 4000000 in
set_option maxRecDepth 100000 in
theorem markChanges_any {B g n cap k : Nat} {L : List CAt} {rest : List MRow} {w : World} (hB : B ≤ w.heap.size) (h : CM B w (.slice (some ⟨g, 0, none⟩) n cap) L rest) (hn : L.length = n) (hn2 : n ≤ 1048576) (hs : ∀ x ∈ L, x.ls.length ≤ 1048576) (h1 : 1 ≤ k) (h2 : endC k L ≤ 4611686018427387904) :
  Calls Tryz.prog 36 #[.slice (some ⟨g, 0, none⟩) n cap, .int .i64 (k : Int)] w fun e w' => e = .returned (.int .i64 (endC k L : Int)) ∧ CM B w' (.slice (some ⟨g, 0, none⟩) n cap) (markCs k L) rest ∧ Below B w w' := by
 obtain ⟨E, hE⟩ : ∃ E, endC k L = E := ⟨_, rfl⟩
 obtain ⟨F, hF⟩ : ∃ F, markCs k L = F := ⟨_, rfl⟩
 have HE : Hid (endC k L = E) := hE
 have HF : Hid (markCs k L = F) := hF
 rw [hE] at h2
 rw [hE, hF]
 clear hE hF
 have HSM := hid_in hs
 clear hs
 go_enter Tryz.func36, Tryz.ntmps36
 go_wp2
 go_loopw [1, 5] (fun q i wr => ∃ (kk : Nat) (D T : List CAt), i = .int .i64 (D.length : Int) ∧ q = .int .i64 (kk : Int) ∧ 1 ≤ kk ∧ D.length + T.length = n ∧ CM B wr (.slice (some ⟨g, 0, none⟩) n cap) (D ++ T) rest ∧ Below B w wr ∧ Hid (∀ x ∈ T, x.ls.length ≤ 1048576) ∧ Hid (endC kk T = E) ∧ Hid (D ++ markCs kk T = F)) (fun _ i _ => n - (intOf i).toNat)
 case atStart => exact ⟨k, [], L, rfl, rfl, h1, by simpa using hn, h, Below.refl _ _, HSM, HE, HF⟩
 case round =>
  obtain ⟨kk, D, T, rfl, rfl, hk1, hDT, hm, hbw, hsm, hE, hF⟩ := hrel
  cases T with
  | nil =>
   have e1 := hE.out
   have e2 := hF.out
   simp only [endC, markCs, List.append_nil] at e1 e2 hm
   subst e1 e2
   simp only [List.length_nil, Nat.add_zero] at hDT
   clear hE hF HE HF h hsm HSM
   have hlt : ¬ ((D.length : Int) < (n : Int)) := by omega
   go_wp2
   go_ret
   exact ⟨rfl, hm, hbw⟩
  | cons r T =>
   have hE' : Hid (endC (nextC kk r) T = E) := hE.out
   have hF' : Hid (D ++ markCn kk r :: markCs (nextC kk r) T = F) := hF.out
   have hkE : nextC kk r ≤ E := by have := endC_le T (nextC kk r); rw [hE'.out] at this; exact this
   have hsm' := hid_in (show ∀ x ∈ T, x.ls.length ≤ 1048576 from fun x hx => hsm.out x (by simp [hx]))
   have hrl : r.ls.length ≤ 1048576 := hsm.out r (by simp)
   have hNB := nextC_le kk r
   clear hE hF HE HF h hsm HSM
   simp only [List.length_cons] at hDT
   have HM1 := fun W => markText_any (kk + 1) W (by omega) (by omega)
   rw [show ((kk + 1 : Nat) : Int) = (kk : Int) + 1 from by omega] at HM1
   have HM2 := fun W => markText_any (kk + 2) W (by omega) (by omega)
   rw [show ((kk + 2 : Nat) : Int) = (kk : Int) + 1 + 1 from by omega] at HM2
   have HM3 := fun W => markText_any (kk + 3) W (by omega) (by omega)
   rw [show ((kk + 3 : Nat) : Int) = (kk : Int) + 1 + 1 + 1 from by omega] at HM3
   have hlt : ((D.length : Int) < (n : Int)) := by omega
   have hnn : ∀ x : CAt, (D ++ x :: T).length = n := fun x => by simp; omega
   have c0 := hm.cell 0 (by decide)
   have f0 := (hm.size (hnn _)).frozenAt (D.length * 5)
   have m0 := hm.set (hnn _) 0 (.int .i64 (kk : Int)) { r with what := (kk : Int) } (by decide) rfl rfl
   simp only [CAt.cells, List.getElem?_cons_zero, Nat.add_zero] at c0 m0
   have B0 := hbw.setCell (p := ⟨g, D.length * 5, none⟩) hm.own_lt (.int .i64 (kk : Int))
   clear hm
   generalize hw0 : wr.setCell ⟨g, D.length * 5, none⟩ (.int .i64 (kk : Int)) = w0 at *
   go_wp2_with (go_at_call 81; refine (HM1 _).mono ?_)
   first | rintro e w1 rfl b1 | rintro e w1 ⟨rfl, b1⟩
   clear hw0 c0 f0
   have m1 := m0.below b1
   have c1 := m1.cell 1 (by decide)
   have f1 := (m1.size (hnn _)).frozenAt (D.length * 5 + 1)
   have m2 := m1.set (hnn _) 1 (.string ⟨(markL (kk + 1)).toArray⟩) { r with what := (kk : Int), kind := ⟨(markL (kk + 1)).toArray⟩ } (by decide) rfl rfl
   simp only [CAt.cells, List.getElem?_cons_zero, List.getElem?_cons_succ] at c1
   have B2 := (B0.trans (b1.mono (Nat.le_trans hB B0.size))).setCell (p := ⟨g, D.length * 5 + 1, none⟩) m1.own_lt (.string ⟨(markL (kk + 1)).toArray⟩)
   clear HM1 m0 b1 m1
   generalize hw2 : w1.setCell ⟨g, D.length * 5 + 1, none⟩ (.string ⟨(markL (kk + 1)).toArray⟩) = w2 at *
   go_wp2_with (go_at_call 81; refine (HM2 _).mono ?_)
   first | rintro e w3 rfl b3 | rintro e w3 ⟨rfl, b3⟩
   clear hw2 c1 f1
   have m3 := m2.below b3
   have c2 := m3.cell 2 (by decide)
   have f2 := (m3.size (hnn _)).frozenAt (D.length * 5 + 2)
   have m4 := m3.set (hnn _) 2 (.string ⟨(markL (kk + 2)).toArray⟩) { r with what := (kk : Int), kind := ⟨(markL (kk + 1)).toArray⟩, name := ⟨(markL (kk + 2)).toArray⟩ } (by decide) rfl rfl
   simp only [CAt.cells, List.getElem?_cons_zero, List.getElem?_cons_succ] at c2
   have B4 := (B2.trans (b3.mono (Nat.le_trans hB B2.size))).setCell (p := ⟨g, D.length * 5 + 2, none⟩) m3.own_lt (.string ⟨(markL (kk + 2)).toArray⟩)
   clear HM2 m2 b3 m3
   generalize hw4 : w3.setCell ⟨g, D.length * 5 + 2, none⟩ (.string ⟨(markL (kk + 2)).toArray⟩) = w4 at *
   go_wp2_with (go_at_call 81; refine (HM3 _).mono ?_)
   first | rintro e w5 rfl b5 | rintro e w5 ⟨rfl, b5⟩
   clear hw4 c2 f2
   have m5 := m4.below b5
   have c3 := m5.cell 3 (by decide)
   have f3 := (m5.size (hnn _)).frozenAt (D.length * 5 + 3)
   have m6 := m5.set (hnn _) 3 (.string ⟨(markL (kk + 3)).toArray⟩) { r with what := (kk : Int), kind := ⟨(markL (kk + 1)).toArray⟩, name := ⟨(markL (kk + 2)).toArray⟩, key := ⟨(markL (kk + 3)).toArray⟩ } (by decide) rfl rfl
   have d4 := m6.cell 4 (by decide)
   have e4 := m5.cell 4 (by decide)
   simp only [CAt.cells, List.getElem?_cons_zero, List.getElem?_cons_succ] at c3 d4 e4
   have B6 := (B4.trans (b5.mono (Nat.le_trans hB B4.size))).setCell (p := ⟨g, D.length * 5 + 3, none⟩) m5.own_lt (.string ⟨(markL (kk + 3)).toArray⟩)
   have m6l := m6.lines
   have HS := markLines_own (k := kk + 4) (Nat.le_trans hB B6.size) m6l hrl (by omega) (by show nextC kk r ≤ _; omega)
   rw [show ((kk + 4 : Nat) : Int) = (kk : Int) + 1 + 1 + 1 + 1 from by omega] at HS
   clear m4 m5 b5
   go_wp2_with (go_at_call 29; refine HS.mono ?_)
   first | rintro e w7 rfl l7 b7 | rintro e w7 ⟨rfl, l7, b7⟩
   have m7 := hid_in (CM.back (r := { r with what := (kk : Int), kind := ⟨(markL (kk + 1)).toArray⟩, name := ⟨(markL (kk + 2)).toArray⟩, key := ⟨(markL (kk + 3)).toArray⟩ }) l7)
   have B7 := B6.trans b7
   clear m6 m6l HS c3 d4 e4 f3 l7
   go_wp2
   go_roundw
   case rel =>
    refine ⟨nextC kk r, D ++ [markCn kk r], T, by simp, rfl, by omega, by simp; omega, ?_, B7, hsm', hE', by rw [List.append_assoc]; exact hF'⟩
    rw [List.append_assoc]; exact m7.out
   case measure => simp [intOf]; omega
theorem CM.form {B : Nat} {w : World} {v : Value} {C : List CAt} {rest : List MRow} (h : CM B w v C rest) : ∃ ao cap, v = .slice ao C.length cap ∧ (C = [] ∨ ∃ g, ao = some ⟨g, 0, none⟩) := by
 obtain ⟨ao, cap, e, hf⟩ := own_form h.own.row
 exact ⟨ao, cap, e, hf.imp (fun h0 => List.length_eq_zero_iff.1 h0) id⟩
theorem markChanges_own {B k : Nat} {v : Value} {L : List CAt} {rest : List MRow} {w : World} (hB : B ≤ w.heap.size) (h : CM B w v L rest) (hs : ChSmall L) (h1 : 1 ≤ k) (h2 : k ≤ 2305843009213693952) :
  Calls Tryz.prog 36 #[v, .int .i64 (k : Int)] w fun e w' => e = .returned (.int .i64 (endC k L : Int)) ∧ CM B w' v (markCs k L) rest ∧ Below B w w' := by
 obtain ⟨ao, cap, rfl, hf⟩ := h.form
 rcases hf with rfl | ⟨g, rfl⟩
 ·exact (markChanges_zero ao cap k w).mono fun e w' h' => ⟨h'.1, by rw [h'.2]; exact h, by rw [h'.2]; exact Below.refl _ _⟩
 ·exact markChanges_any hB h rfl hs.1 (fun x hx => (hs.2 x hx).1) h1 (endC_fits hs h2)
end Go.Proofs.YtpdahhnjhggocabGreatDoor
namespace Go.Proofs.YtpdahhnjhggocabGreatDoor
open Go.RowKit
set_option maxHeartbeats 1000000 in
set_option maxRecDepth 100000 in
theorem eqChange_any {x y : CAt} {w : World} (hx : LinesIn w x.v x.ls) (hy : LinesIn w y.v y.ls) (he : x.plain = y.plain) (hs : LinesSmall x.ls) : Calls Tryz.prog 94 #[.agg #[.int .i64 x.what, .string x.kind, .string x.name, .string x.key, x.v], .agg #[.int .i64 y.what, .string y.kind, .string y.name, .string y.key, y.v]] w fun e w' => e = .returned (.bool true) ∧ Below w.heap.size w w' := by
 obtain ⟨xh, xk, xn, xy, xv, xl⟩ := x
 obtain ⟨yh, yk, yn, yy, yv, yl⟩ := y
 simp only [CAt.plain, PChange.mk.injEq] at he
 obtain ⟨rfl, rfl, rfl, rfl, hl⟩ := he
 simp only at hx hy hs ⊢
 obtain ⟨ax, cx, rfl⟩ := hx.1.form
 obtain ⟨ay, cy, rfl⟩ := hy.1.form
 have G := ((Below.refl w.heap.size w).alloc (Nat.le_refl _) (.cells #[.int .i64 xh, .string xk, .string xn, .string xy, .slice ax xl.length cx] 131)).alloc (by simp) (.cells #[.int .i64 xh, .string xk, .string xn, .string xy, .slice ay yl.length cy] 131)
 have hc := two_boxes (w := w) (cs := #[.int .i64 xh, .string xk, .string xn, .string xy, .slice ax xl.length cx]) (ds := #[.int .i64 xh, .string xk, .string xn, .string xy, .slice ay yl.length cy]) (T := 131) (U := 131)
 have c0 := hc.1 0
 have d0 := hc.2 0
 have c1 := hc.1 1
 have d1 := hc.2 1
 have c2 := hc.1 2
 have d2 := hc.2 2
 have c3 := hc.1 3
 have d3 := hc.2 3
 have c4 := hc.1 4
 have d4 := hc.2 4
 simp only [List.getElem?_toArray, List.getElem?_cons_zero, List.getElem?_cons_succ] at c0 c1 c2 c3 c4 d0 d1 d2 d3 d4
 have HE := eqLines_any (hx.below G) (hy.below G) hl hs
 have hxh : (xh != xh) = false := by simp
 clear hc hx hy hl hs
 generalize xl.length = n at *
 generalize yl.length = m at *
 go_enter Tryz.func94, Tryz.ntmps94
 go_wp2_with (go_at_call 28; refine HE.mono ?_; rintro e w2 ⟨rfl, b2⟩)
 go_ret
 exact ⟨rfl, G.trans (b2.mono G.size)⟩
set_option maxHeartbeats 2000000 in
set_option maxRecDepth 100000 in
theorem eqChanges_any {v u : Value} {xs ys : List CAt} {w : World} (h1 : ChangesIn w v xs) (h2 : ChangesIn w u ys) (he : xs.map CAt.plain = ys.map CAt.plain) (hs : xs.length ≤ 1048576 ∧ ∀ x ∈ xs, LinesSmall x.ls) : Calls Tryz.prog 35 #[v, u] w fun e w' => e = .returned (.bool true) ∧ Below w.heap.size w w' := by
 obtain ⟨ao, ca, rfl⟩ := h1.1.form
 obtain ⟨bo, cb, rfl⟩ := h2.1.form
 have hl : ys.length = xs.length := by have := congrArg List.length he; simpa using this.symm
 rw [hl]
 rw [hl] at h2
 have hn := hs.1
 generalize hN : xs.length = n at *
 have en := hid_in hN
 clear hN hl
 have hn0 : ((n : Int) != (n : Int)) = false := by simp
 go_enter Tryz.func35, Tryz.ntmps35
 go_wp2
 go_loopw [5] (fun i wr => ∃ j : Nat, j ≤ n ∧ i = .int .i64 (j : Int) ∧ Below w.heap.size w wr) (fun i _ => n - (intOf i).toNat)
 case atStart => exact ⟨0, by omega, rfl, Below.refl _ _⟩
 case round =>
  obtain ⟨j, hj, rfl, bw⟩ := hrel
  by_cases hlt : j < n
  ·obtain ⟨D, x, T, D', y, T', e1, e2, hD, hD', hxy⟩ := same_at he j (by have := en.out; omega)
   have h5 := h1.below bw
   have h6 := h2.below bw
   have hxm : x ∈ xs := by rw [e1]; simp
   have hym : y ∈ ys := by rw [e2]; simp
   have h7 := h5
   have h8 := h6
   rw [e1] at h7
   rw [e2] at h8
   obtain ⟨g, off, rfl, c1, c2, c3, c4, c5⟩ := h7.1.change
   obtain ⟨g', off', rfl, d1, d2, d3, d4, d5⟩ := h8.1.change
   rw [hD] at c1 c2 c3 c4 c5
   rw [hD'] at d1 d2 d3 d4 d5
   have HX := fun p : Gr wr => eqChange_any ((h5.2 x hxm).below p.h) ((h6.2 y hym).below p.h) hxy (hs.2 x hxm)
   have k1 := fun p : Gr wr => gr_cell c1 p
   have q1 := fun p : Gr wr => gr_cell d1 p
   have k2 := fun p : Gr wr => gr_cell c2 p
   have q2 := fun p : Gr wr => gr_cell d2 p
   have k3 := fun p : Gr wr => gr_cell c3 p
   have q3 := fun p : Gr wr => gr_cell d3 p
   have k4 := fun p : Gr wr => gr_cell c4 p
   have q4 := fun p : Gr wr => gr_cell d4 p
   have k5 := fun p : Gr wr => gr_cell c5 p
   have q5 := fun p : Gr wr => gr_cell d5 p
   obtain ⟨ax, cx, ex⟩ := (h5.2 x hxm).1.form
   obtain ⟨ay, cy, ey⟩ := (h6.2 y hym).1.form
   rw [ex] at k5
   rw [ey] at q5
   simp only [ex, ey] at HX
   have i0 : (0 : Int) ≤ (j : Int) := by omega
   have i1 : (j : Int) < (n : Int) := by omega
   clear h1 h2 h5 h6 h7 h8 hs he e1 e2 hxy c1 c2 c3 c4 c5 d1 d2 d3 d4 d5 hxm hym ex ey
   generalize x.ls.length = nx at *
   generalize y.ls.length = ny at *
   generalize x.what = xw at *
   generalize y.what = yw at *
   generalize x.kind = xk at *
   generalize y.kind = yk at *
   generalize x.name = xn at *
   generalize y.name = yn at *
   generalize x.key = xy at *
   generalize y.key = yy at *
   go_wp2
   refine wp_region_gr (by kernel_rfl) (by kernel_rfl) ?_
   iterate 8 quiet_step (fail)
   quiet_step ((go_at_call 94; refine gr_of (HX _)))
   quiet_step (fail)
   refine wpQuiet_nil ?_
   rintro _ ⟨⟨wq, bq⟩, rfl⟩
   go_wp2
   go_roundw
   case rel => exact ⟨j + 1, by omega, by go_num, bw.trans (bq.mono bw.size)⟩
   case measure => simp [intOf]; omega
  ·obtain rfl : j = n := by omega
   clear h1 h2 hs he
   go_wp2
   go_ret
   exact ⟨rfl, bw⟩
end Go.Proofs.YtpdahhnjhggocabGreatDoor
namespace Go.Proofs.YtpdahhnjhggocabGreatDoor
open Go.RowKit
def SzR (left : Nat) (P : Nat → Prop) (w : World) (e : Ending) (w' : World) : Prop := (e = .returned (.int .i64 (-1)) ∨ ∃ r : Nat, r ≤ left ∧ e = .returned (.int .i64 (r : Int)) ∧ P r) ∧ Below w.heap.size w w'
set_option maxHeartbeats 1000000 in
set_option maxRecDepth 100000 in
theorem szLinesB_any {left : Nat} {v : Value} {ls : List LAt} {w : World} (h : LinesIn w v ls) (hw : LinesWide ls) (hl : left ≤ 1048576) : Calls Tryz.prog 159 #[v, .int .i64 (left : Int)] w fun e w' => SzR left (fun r => LinesSmall ls ∧ ls.length + r ≤ left) w e w' := by
 obtain ⟨ao, cap, rfl⟩ := h.1.form
 have hf := row_wide h.1
 generalize hn : ls.length = len at *
 have en := hid_in hn
 clear hn
 have hf' : (len : Int) ≤ 9223372036854775807 := by omega
 by_cases hl1 : len ≤ left
 ·have hl' : ¬ ((left : Int) - (len : Int) < 0) := by omega
  go_enter Tryz.func159, Tryz.ntmps159
  go_wp2
  go_loopw [1, 5] (fun q i wr => ∃ j r : Nat, j ≤ len ∧ r + len ≤ left ∧ i = .int .i64 (j : Int) ∧ q = .int .i64 (r : Int) ∧ Below w.heap.size w wr ∧ AllTo LineSmall ls j) (fun _ i _ => len - (intOf i).toNat)
  case atStart => exact ⟨0, left - len, by omega, by omega, rfl, by congr 1; omega, Below.refl _ _, AllTo.zero _ _⟩
  case round =>
   obtain ⟨j, r, hj, hr, rfl, rfl, bw, hA⟩ := hrel
   by_cases hlt : j < len
   ·obtain ⟨D, x, T, rfl, hD⟩ := split1 ls j (by have := en.out; omega)
    have h5 := h.below bw
    obtain ⟨g, off, rfl, c1, c2⟩ := h5.1.line
    obtain ⟨ax, cx, e1⟩ := HasRow.form (h5.2 x (by simp))
    have HX := szLine_any (left := r) (h5.2 x (by simp)) (hw x (by simp)) (by omega)
    rw [e1] at c2 HX
    subst hD
    have hA' := fun h => hA.succ (r := x) h
    clear h h5 hw hA e1 en
    generalize LineSmall x = LS at *
    generalize x.ws.length = nx at *
    generalize x.key = xk at *
    go_wp2_with (go_at_call 219; refine HX.mono ?_)
    rintro e w2 ⟨rfl | ⟨q, hq, rfl, hs⟩, b2⟩
    ·go_wp2
     go_ret
     exact ⟨.inl rfl, bw.trans (b2.mono bw.size)⟩
    ·have HA := hA' hs
     have hq0 : ¬ ((q : Int) < 0) := by omega
     clear hA'
     go_wp2
     go_roundw
     case rel => exact ⟨D.length + 1, q, by omega, by omega, by go_num, rfl, bw.trans (b2.mono bw.size), HA⟩
     case measure => simp [intOf]; omega
   ·obtain rfl : j = len := by omega
    have HA := hid_in (show LinesSmall ls from ⟨by have := en.out; omega, AllTo.all (by rw [en.out]; exact hA)⟩)
    clear hA h hw
    go_wp2
    go_ret
    exact ⟨.inr ⟨r, by omega, rfl, HA.out, by omega⟩, bw⟩
 ·have hl' : (left : Int) - (len : Int) < 0 := by omega
  clear h hw
  go_enter Tryz.func159, Tryz.ntmps159
  go_wp2
  go_ret
  exact ⟨.inl rfl, Below.refl _ _⟩
set_option maxHeartbeats 1000000 in
set_option maxRecDepth 100000 in
theorem szBlockB_any {left : Nat} {x : BAt} {w : World} (h : BlockIn w x) (hw : BlockWide x) (hl : left ≤ 1048576) : Calls Tryz.prog 126 #[.agg #[.string x.kind, .string x.name, x.v], .int .i64 (left : Int)] w fun e w' => SzR left (fun r => BlockSmall x ∧ x.ls.length + r ≤ left) w e w' := by
 obtain ⟨ax, cx, e1⟩ := h.1.form
 unfold BlockIn at h
 rw [e1] at h ⊢
 have g6 : Below w.heap.size w (w.alloc (.cells #[.string x.kind, .string x.name, .slice ax x.ls.length cx] 189)) := (Below.refl _ _).alloc (Nat.le_refl _) _
 have h6 := h.below g6
 have k1 := one_box (w := w) (cs := #[.string x.kind, .string x.name, .slice ax x.ls.length cx]) (T := 189) 0
 have k2 := one_box (w := w) (cs := #[.string x.kind, .string x.name, .slice ax x.ls.length cx]) (T := 189) 1
 have k3 := one_box (w := w) (cs := #[.string x.kind, .string x.name, .slice ax x.ls.length cx]) (T := 189) 2
 simp only [List.getElem?_toArray, List.getElem?_cons_zero, List.getElem?_cons_succ] at k1 k2 k3
 have hk : (x.kind.size : Int) ≤ 9223372036854775807 := by have := hw.1; omega
 have hk2 : (x.name.size : Int) ≤ 9223372036854775807 := by have := hw.2.1; omega
 have HZ := fun (l : Nat) (hl : l ≤ 1048576) => szLinesB_any (left := l) h6 hw.2.2 hl
 have hBS := hid_in (show x.name.size ≤ 1048576 → LinesSmall x.ls → BlockSmall x from fun a b => ⟨a, b⟩)
 generalize BlockSmall x = BS at *
 clear h hw e1 h6
 generalize LinesSmall x.ls = LS at *
 generalize x.ls.length = nx at *
 generalize x.kind = xk at *
 generalize x.name = xn at *
 by_cases h1 : xk.size ≤ left
 ·have h1' : ¬ ((left : Int) - (xk.size : Int) < 0) := by omega
  by_cases h2 : xk.size + xn.size ≤ left
  ·have HZ' := HZ (left - xk.size - xn.size) (by omega)
   have hc : ((left - xk.size - xn.size : Nat) : Int) = (left : Int) - (xk.size : Int) - (xn.size : Int) := by omega
   rw [hc] at HZ'
   have h2' : ¬ ((left : Int) - (xk.size : Int) - (xn.size : Int) < 0) := by omega
   have hBS' := hid_in (hBS.out (by omega))
   clear HZ hBS
   go_enter Tryz.func126, Tryz.ntmps126
   go_wp2_with (go_at_call 159; refine HZ'.mono ?_)
   rintro e w2 ⟨rfl | ⟨r, hr, rfl, hs, hbb⟩, b2⟩
   ·go_wp2
    go_ret
    exact ⟨.inl rfl, g6.trans (b2.mono g6.size)⟩
   ·have hr0 : ¬ ((r : Int) < 0) := by omega
    go_wp2
    go_ret
    exact ⟨.inr ⟨r, by omega, rfl, hBS'.out hs, by omega⟩, g6.trans (b2.mono g6.size)⟩
  ·have h2' : (left : Int) - (xk.size : Int) - (xn.size : Int) < 0 := by omega
   clear HZ hBS
   go_enter Tryz.func126, Tryz.ntmps126
   go_wp2
   go_ret
   exact ⟨.inl rfl, g6⟩
 ·have h1' : (left : Int) - (xk.size : Int) < 0 := by omega
  clear HZ hBS
  go_enter Tryz.func126, Tryz.ntmps126
  go_wp2
  go_ret
  exact ⟨.inl rfl, g6⟩
set_option maxHeartbeats 1000000 in
set_option maxRecDepth 100000 in
theorem szBlocksB_any {left : Nat} {v : Value} {bs : List BAt} {w : World} (h : BlocksIn w v bs) (hw : BlocksWide bs) (hl : left ≤ 1048576) : Calls Tryz.prog 60 #[v, .int .i64 (left : Int)] w fun e w' => SzR left (fun r => BlocksSmall bs ∧ ∀ b ∈ bs, b.ls.length + r ≤ left) w e w' := by
 obtain ⟨ao, cap, rfl⟩ := h.1.form
 have hf := row_wide h.1
 generalize hn : bs.length = len at *
 have en := hid_in hn
 clear hn
 have hf' : (len : Int) ≤ 9223372036854775807 := by omega
 by_cases hl1 : len ≤ left
 ·have hl' : ¬ ((left : Int) - (len : Int) < 0) := by omega
  go_enter Tryz.func60, Tryz.ntmps60
  go_wp2
  go_loopw [1, 5] (fun q i wr => ∃ j r : Nat, j ≤ len ∧ r + len ≤ left ∧ i = .int .i64 (j : Int) ∧ q = .int .i64 (r : Int) ∧ Below w.heap.size w wr ∧ AllTo (fun b : BAt => BlockSmall b ∧ b.ls.length + r ≤ left) bs j) (fun _ i _ => len - (intOf i).toNat)
  case atStart => exact ⟨0, left - len, by omega, by omega, rfl, by congr 1; omega, Below.refl _ _, AllTo.zero _ _⟩
  case round =>
   obtain ⟨j, r, hj, hr, rfl, rfl, bw, hA⟩ := hrel
   by_cases hlt : j < len
   ·obtain ⟨D, x, T, rfl, hD⟩ := split1 bs j (by have := en.out; omega)
    have h5 := h.below bw
    obtain ⟨g, off, rfl, c1, c2, c3⟩ := h5.1.block
    obtain ⟨ax, cx, e1⟩ := (h5.2 x (by simp)).1.form
    have HX := szBlockB_any (left := r) (h5.2 x (by simp)) (hw x (by simp)) (by omega)
    rw [e1] at c3 HX
    subst hD
    have hA' := hid_in (show ∀ q, q ≤ r → BlockSmall x ∧ x.ls.length + q ≤ r → AllTo (fun b : BAt => BlockSmall b ∧ b.ls.length + q ≤ left) (D ++ x :: T) (D.length + 1) from fun q hq h => AllTo.succ (p := fun b : BAt => BlockSmall b ∧ b.ls.length + q ≤ left) (fun b hb => ⟨(hA b hb).1, by have := (hA b hb).2; omega⟩) ⟨h.1, by omega⟩)
    clear h h5 hw hA e1 en
    generalize x.ls.length = nx at *
    generalize x.kind = xk at *
    generalize x.name = xn at *
    go_wp2_with (go_at_call 126; refine HX.mono ?_)
    rintro e w2 ⟨rfl | ⟨q, hq, rfl, hs⟩, b2⟩
    ·go_wp2
     go_ret
     exact ⟨.inl rfl, bw.trans (b2.mono bw.size)⟩
    ·have HA := hid_in (hA'.out q hq hs)
     have hq0 : ¬ ((q : Int) < 0) := by omega
     clear hA' hs
     go_wp2
     go_roundw
     case rel => exact ⟨D.length + 1, q, by omega, by omega, by go_num, rfl, bw.trans (b2.mono bw.size), HA.out⟩
     case measure => simp [intOf]; omega
   ·obtain rfl : j = len := by omega
    have HB := AllTo.all (p := fun b : BAt => BlockSmall b ∧ b.ls.length + r ≤ left) (l := bs) (by rw [en.out]; exact hA)
    have HA := hid_in (show BlocksSmall bs ∧ ∀ b ∈ bs, b.ls.length + r ≤ left from ⟨⟨by have := en.out; omega, fun b hb => (HB b hb).1⟩, fun b hb => (HB b hb).2⟩)
    clear HB
    clear hA h hw
    go_wp2
    go_ret
    exact ⟨.inr ⟨r, by omega, rfl, HA.out⟩, bw⟩
 ·have hl' : (left : Int) - (len : Int) < 0 := by omega
  clear h hw
  go_enter Tryz.func60, Tryz.ntmps60
  go_wp2
  go_ret
  exact ⟨.inl rfl, Below.refl _ _⟩
set_option maxHeartbeats 1000000 in
set_option maxRecDepth 100000 in
theorem szSheetB_any {left : Nat} {v : Value} {bs : List BAt} {w : World} (h : BlocksIn w v bs) (hw : BlocksWide bs) (hl : left ≤ 1048576) : Calls Tryz.prog 18 #[.agg #[v], .int .i64 (left : Int)] w fun e w' => SzR left (fun r => BlocksSmall bs ∧ ∀ b ∈ bs, b.ls.length + r ≤ left) w e w' := by
 obtain ⟨ao, cap, rfl⟩ := h.1.form
 have g6 : Below w.heap.size w (w.alloc (.cells #[.slice ao bs.length cap] 35)) := (Below.refl _ _).alloc (Nat.le_refl _) _
 have k1 := one_box (w := w) (cs := #[.slice ao bs.length cap]) (T := 35) 0
 simp only [List.getElem?_toArray, List.getElem?_cons_zero] at k1
 have HZ := szBlocksB_any (left := left) (h.below g6) hw hl
 obtain ⟨PQ, hPQ⟩ : ∃ PQ : Nat → Prop, PQ = fun r => BlocksSmall bs ∧ ∀ b ∈ bs, b.ls.length + r ≤ left := ⟨_, rfl⟩
 rw [← hPQ] at HZ ⊢
 clear hPQ
 generalize bs.length = n at *
 clear h hw
 go_enter Tryz.func18, Tryz.ntmps18
 go_wp2_with (go_at_call 60; refine HZ.mono ?_)
 rintro e w2 ⟨rfl | ⟨r, hr, rfl, hs⟩, b2⟩
 ·go_wp2
  go_ret
  exact ⟨.inl rfl, g6.trans (b2.mono g6.size)⟩
 ·have hr0 : ¬ ((r : Int) < 0) := by omega
  go_wp2
  go_ret
  exact ⟨.inr ⟨r, by omega, rfl, hs⟩, g6.trans (b2.mono g6.size)⟩
end Go.Proofs.YtpdahhnjhggocabGreatDoor
