import Derived.Test.YtdcnfbhfpfikjaaRulesE
namespace Go.Proofs.Ytdcnfbhfpfikjaa
open Go.RowKit
theorem Mem.turnMid {B : Nat} {w w' : World} {A C : List MRow} {r r' : MRow} (h : Mem B w (A ++ r :: C)) (hv : r'.v = r.v) (hr : r'.isAt B w') (hg : w.grownBy w' r.v.ownBlock) : Mem B w' (A ++ r' :: C) :=
  (Mem.turn (h.perm List.perm_middle) hv hr hg).perm List.perm_middle.symm
theorem RM.size {B g n cap : Nat} {w : World} {C : List RAt} {rest : List MRow} (h : RM B w (.slice (some ⟨g, 0, none⟩) n cap) C rest) (hn : C.length = n) : w.ownsRow B 41 4 (.slice (some ⟨g, 0, none⟩) n cap) n (C.flatMap RAt.cells) := by
  subst hn; exact Mem.head h
theorem cells_set (D T : List RAt) (r r' : RAt) (c : Nat) (u : Value) (hc : c < 4) (hr : r'.cells = r.cells.set c u) : ((D ++ r :: T).flatMap RAt.cells).set (D.length * 4 + c) u = (D ++ r' :: T).flatMap RAt.cells := by
  rw [List.flatMap_append, List.flatMap_cons, List.set_append_right _ _ (by rw [cells_len]; omega), cells_len, Nat.add_sub_cancel_left, List.set_append_left _ _ (by simp [RAt.cells]; omega), ← hr, List.flatMap_append, List.flatMap_cons]
theorem RM.set {B g n cap : Nat} {w : World} {D T : List RAt} {r : RAt} {rest : List MRow} (h : RM B w (.slice (some ⟨g, 0, none⟩) n cap) (D ++ r :: T) rest) (hn : (D ++ r :: T).length = n) (c : Nat) (u : Value) (r' : RAt) (hc : c < 4) (hr : r'.cells = r.cells.set c u) (hrr : r'.rows = r.rows) :
    RM B (w.setCell ⟨g, D.length * 4 + c, none⟩ u) (.slice (some ⟨g, 0, none⟩) n cap) (D ++ r' :: T) rest := by
  have hst := (h.size hn).stored (D.length * 4 + c) u
  rw [cells_set D T r r' c u hc hr] at hst
  unfold RM at h ⊢
  have e : (D ++ r' :: T).flatMap RAt.rows = (D ++ r :: T).flatMap RAt.rows := by rw [List.flatMap_append, List.flatMap_append, List.flatMap_cons, List.flatMap_cons, hrr]
  have e2 : (D ++ r' :: T).length = (D ++ r :: T).length := by simp
  rw [e, e2]
  subst hn
  exact Mem.turn h rfl hst.1 hst.2
theorem RM.turnArgs {B : Nat} {w w' : World} {v : Value} {D T : List RAt} {r : RAt} {rest : List MRow} (h : RM B w v (D ++ r :: T) rest) (ns' : List Int) (hl : ns'.length = r.ns.length) (ho : w'.ownsRow B 3 1 r.va r.ns.length (intsV ns')) (hg : w.grownBy w' r.va.ownBlock) : RM B w' v (D ++ { r with ns := ns' } :: T) rest := by
  have e : ∀ x : RAt, ((D ++ x :: T).flatMap RAt.rows ++ rest) = D.flatMap RAt.rows ++ (⟨x.va, 3, 1, x.ns.length, intsV x.ns⟩ :: (⟨x.vd, 9, 1, x.ds.length, strs x.ds⟩ :: (T.flatMap RAt.rows ++ rest))) := fun x => by simp [RAt.rows]
  unfold RM at h ⊢
  have ec : (D ++ { r with ns := ns' } :: T).flatMap RAt.cells = (D ++ r :: T).flatMap RAt.cells := by rw [List.flatMap_append, List.flatMap_append, List.flatMap_cons, List.flatMap_cons]; rfl
  have e2 : (D ++ { r with ns := ns' } :: T).length = (D ++ r :: T).length := by simp
  rw [e] at h
  rw [e, ec, e2]
  exact Mem.turnMid (A := _ :: D.flatMap RAt.rows) (r := ⟨r.va, 3, 1, r.ns.length, intsV r.ns⟩) h rfl (by unfold MRow.isAt; rw [hl]; exact ho) hg
theorem RM.turnDefs {B : Nat} {w w' : World} {v : Value} {D T : List RAt} {r : RAt} {rest : List MRow} (h : RM B w v (D ++ r :: T) rest) (ds' : List (List UInt8)) (hl : ds'.length = r.ds.length) (ho : w'.ownsRow B 9 1 r.vd r.ds.length (strs ds')) (hg : w.grownBy w' r.vd.ownBlock) : RM B w' v (D ++ { r with ds := ds' } :: T) rest := by
  have e : ∀ x : RAt, ((D ++ x :: T).flatMap RAt.rows ++ rest) = (D.flatMap RAt.rows ++ [⟨x.va, 3, 1, x.ns.length, intsV x.ns⟩]) ++ (⟨x.vd, 9, 1, x.ds.length, strs x.ds⟩ :: (T.flatMap RAt.rows ++ rest)) := fun x => by simp [RAt.rows]
  unfold RM at h ⊢
  have ec : (D ++ { r with ds := ds' } :: T).flatMap RAt.cells = (D ++ r :: T).flatMap RAt.cells := by rw [List.flatMap_append, List.flatMap_append, List.flatMap_cons, List.flatMap_cons]; rfl
  have e2 : (D ++ { r with ds := ds' } :: T).length = (D ++ r :: T).length := by simp
  rw [e] at h
  rw [e, ec, e2]
  exact Mem.turnMid (A := _ :: (D.flatMap RAt.rows ++ [⟨r.va, 3, 1, r.ns.length, intsV r.ns⟩])) (r := ⟨r.vd, 9, 1, r.ds.length, strs r.ds⟩) (r' := ⟨r.vd, 9, 1, ds'.length, strs ds'⟩) h rfl (by unfold MRow.isAt; rw [hl]; exact ho) hg
/-- A rule marked from k on. -/
def markR (k : Nat) (r : RAt) : RAt := { r with key := ⟨(markL k).toArray⟩, ns := marksI (k + 1) r.ns.length, many := decide ((k + 1 + r.ns.length) % 3 = 0), ds := marks (k + 1 + r.ns.length + 1) r.ds.length }
def nextK (k : Nat) (r : RAt) : Nat := k + 1 + r.ns.length + 1 + r.ds.length
def markRs : Nat → List RAt → List RAt
  | _, [] => []
  | k, r :: L => markR k r :: markRs (nextK k r) L
def endK : Nat → List RAt → Nat
  | k, [] => k
  | k, r :: L => endK (nextK k r) L
theorem endK_le : ∀ (L : List RAt) (k : Nat), k ≤ endK k L
  | [], k => Nat.le_refl _
  | r :: L, k => Nat.le_trans (by unfold nextK; omega) (endK_le L (nextK k r))
theorem markRs_length : ∀ (L : List RAt) (k : Nat), (markRs k L).length = L.length
  | [], k => rfl
  | r :: L, k => by simp [markRs, markRs_length L]
theorem RM.own_lt {B : Nat} {w : World} {v : Value} {C : List RAt} {rest : List MRow} (h : RM B w v C rest) : ∀ g, v.ownBlock = some g → B ≤ g := fun _ hg => (Mem.lt h (List.mem_cons_self ..) hg).1
set_option maxHeartbeats 1000000 in
set_option maxRecDepth 100000 in
theorem markRules_any {B g n cap k : Nat} {L : List RAt} {rest : List MRow} {w : World} (hB : B ≤ w.heap.size) (h : RM B w (.slice (some ⟨g, 0, none⟩) n cap) L rest) (hn : L.length = n) (hn2 : n ≤ 1000) (h1 : 1 ≤ k) (h2 : endK k L ≤ 1000000) :
    Calls Try.prog 10 #[.slice (some ⟨g, 0, none⟩) n cap, .int .i64 (k : Int)] w fun e w' => e = .returned (.int .i64 (endK k L : Int)) ∧ RM B w' (.slice (some ⟨g, 0, none⟩) n cap) (markRs k L) rest ∧ Below B w w' := by
  obtain ⟨E, hE⟩ : ∃ E, endK k L = E := ⟨_, rfl⟩
  obtain ⟨F, hF⟩ : ∃ F, markRs k L = F := ⟨_, rfl⟩
  have HE : Hid (endK k L = E) := hE
  have HF : Hid (markRs k L = F) := hF
  rw [hE] at h2
  rw [hE, hF]
  clear hE hF
  go_enter Try.func10, Try.ntmps10
  go_wp2
  go_loopw [1, 5] (fun q i wr => ∃ (kk : Nat) (D T : List RAt), i = .int .i64 (D.length : Int) ∧ q = .int .i64 (kk : Int) ∧ 1 ≤ kk ∧ D.length + T.length = n ∧ RM B wr (.slice (some ⟨g, 0, none⟩) n cap) (D ++ T) rest ∧ Below B w wr ∧ Hid (endK kk T = E) ∧ Hid (D ++ markRs kk T = F)) (fun _ i _ => n - (intOf i).toNat)
  case atStart => exact ⟨k, [], L, rfl, rfl, h1, by simpa using hn, h, Below.refl _ _, HE, HF⟩
  case round =>
    obtain ⟨kk, D, T, rfl, rfl, hk1, hDT, hm, hbw, hE, hF⟩ := hrel
    cases T with
    | nil =>
      have e1 := hE.out
      have e2 := hF.out
      simp only [endK, markRs, List.append_nil] at e1 e2 hm
      subst e1 e2
      simp only [List.length_nil, Nat.add_zero] at hDT
      clear hE hF HE HF h
      have hlt : ¬ ((D.length : Int) < (n : Int)) := by omega
      go_wp2
      go_ret
      exact ⟨rfl, hm, hbw⟩
    | cons r T =>
      have hE' : Hid (endK (nextK kk r) T = E) := hE.out
      have hF' : Hid (D ++ markR kk r :: markRs (nextK kk r) T = F) := hF.out
      have hkE : nextK kk r ≤ E := by have := endK_le T (nextK kk r); rw [hE'.out] at this; exact this
      clear hE hF HE HF h
      simp only [List.length_cons] at hDT
      unfold nextK at hkE
      have HM := fun W => markText_any kk W hk1 (by omega)
      have hlt : ((D.length : Int) < (n : Int)) := by omega
      go_wp2_with (go_at_call 22; refine (HM _).mono ?_)
      rintro e w1 ⟨rfl, b1⟩
      have m1 := hm.below b1
      have hnn : (D ++ r :: T).length = n := by simp; omega
      have c0 := m1.cell 0 (by decide)
      have c1 := m1.cell 1 (by decide)
      have f0 := (m1.size hnn).frozenAt (D.length * 4)
      have f2 := (m1.size hnn).frozenAt (D.length * 4 + 2)
      have m2 := m1.set hnn 0 (.string ⟨(markL kk).toArray⟩) { r with key := ⟨(markL kk).toArray⟩ } (by decide) rfl rfl
      have d1 := m2.cell 1 (by decide)
      simp only [RAt.cells, List.getElem?_cons_zero, List.getElem?_cons_succ, Nat.add_zero] at c0 c1 d1 m2
      have o2 : World.ownsRow _ B 3 1 r.va r.ns.length (intsV r.ns) := m2.args
      have B2 := (hbw.trans (b1.mono (Nat.le_trans hB hbw.size))).setCell (p := ⟨g, D.length * 4, none⟩) (hm.own_lt g rfl) (.string ⟨(markL kk).toArray⟩)
      have HI := markInts_own (k := kk + 1) o2 (by omega)
      rw [show ((kk + 1 : Nat) : Int) = (kk : Int) + 1 from by omega] at HI
      clear HM hm b1 m1
      go_wp2_with (go_at_call 23; refine HI.mono ?_)
      rintro e w3 ⟨rfl, o3, g3⟩
      have m3 := m2.turnArgs (marksI (kk + 1) r.ns.length) (marksI_length _ _) o3 g3
      have B3 := B2.grown g3 (Nat.le_trans hB B2.size) (fun x hx => (o2.lt x hx).1)
      have hnn3 : ∀ x : RAt, (D ++ x :: T).length = n := fun x => by simp; omega
      have e2 := m3.cell 2 (by decide)
      have f2 := (m3.size (hnn3 _)).frozenAt (D.length * 4 + 2)
      have m4 := m3.set (hnn3 _) 2 (.bool (decide ((kk + 1 + r.ns.length) % 3 = 0))) { r with key := ⟨(markL kk).toArray⟩, ns := marksI (kk + 1) r.ns.length, many := decide ((kk + 1 + r.ns.length) % 3 = 0) } (by decide) rfl rfl
      have d3 := m4.cell 3 (by decide)
      have e3 := m3.cell 3 (by decide)
      simp only [RAt.cells, List.getElem?_cons_zero, List.getElem?_cons_succ] at e2 d3 e3
      have o4 : World.ownsRow _ B 9 1 r.vd r.ds.length (strs r.ds) := m4.defs
      have B4 := B3.setCell (p := ⟨g, D.length * 4 + 2, none⟩) (m3.own_lt g rfl) (.bool (decide ((kk + 1 + r.ns.length) % 3 = 0)))
      have HS := markStrings_own (k := kk + 1 + r.ns.length + 1) o4 (by omega) (by omega)
      rw [show ((kk + 1 + r.ns.length + 1 : Nat) : Int) = (kk : Int) + 1 + (r.ns.length : Int) + 1 from by omega] at HS
      have hmod : (((kk : Int) + 1 + (r.ns.length : Int)) % 3 == 0) = decide ((kk + 1 + r.ns.length) % 3 = 0) := by
        rw [Bool.eq_iff_iff, beq_iff_eq, decide_eq_true_iff]; omega
      have hpos : (0 : Int) ≤ (kk : Int) + 1 + (r.ns.length : Int) := by omega
      clear m2 o2 o3 g3 HI c0 c1 d1
      go_wp2_with (go_at_call 24; refine HS.mono ?_)
      rintro e w5 ⟨rfl, o5, g5⟩
      have m5 := m4.turnDefs (marks (kk + 1 + r.ns.length + 1) r.ds.length) (marks_length _ _) o5 g5
      have B5 := B4.grown g5 (Nat.le_trans hB B4.size) (fun x hx => (o4.lt x hx).1)
      clear m3 m4 o4 o5 g5 HS e2 e3 d3 f2 f0
      go_wp2
      go_roundw
      case rel =>
        refine ⟨nextK kk r, D ++ [markR kk r], T, by simp, by unfold nextK; go_num, by unfold nextK; omega, by simp; omega, ?_, B5, hE', by rw [List.append_assoc]; exact hF'⟩
        rw [List.append_assoc]; exact m5
      case measure => simp [intOf]; omega
set_option maxHeartbeats 1000000 in
set_option maxRecDepth 100000 in
theorem heldRules_any {B g n cap k : Nat} {L : List RAt} {rest : List MRow} {w : World} (h : RM B w (.slice (some ⟨g, 0, none⟩) n cap) (markRs k L) rest) (hn : L.length = n) (hn2 : n ≤ 1000) (h1 : 1 ≤ k) (h2 : endK k L ≤ 1000000) :
    Calls Try.prog 11 #[.slice (some ⟨g, 0, none⟩) n cap, .int .i64 (k : Int)] w fun e w' => e = .returned (.int .i64 (endK k L : Int)) ∧ Below w.heap.size w w' := by
  obtain ⟨E, hE⟩ : ∃ E, endK k L = E := ⟨_, rfl⟩
  obtain ⟨F, hF⟩ : ∃ F, markRs k L = F := ⟨_, rfl⟩
  have HE : Hid (endK k L = E) := hE
  have HF : Hid (markRs k L = F) := hF
  rw [hE] at h2
  rw [hF] at h
  rw [hE]
  clear hE hF
  go_enter Try.func11, Try.ntmps11
  go_wp2
  go_loopw [1, 5] (fun q i wr => ∃ (kk : Nat) (D T : List RAt), i = .int .i64 (D.length : Int) ∧ q = .int .i64 (kk : Int) ∧ 1 ≤ kk ∧ D.length + T.length = n ∧ Below w.heap.size w wr ∧ Hid (endK kk T = E) ∧ Hid (D ++ markRs kk T = F)) (fun _ i _ => n - (intOf i).toNat)
  case atStart => exact ⟨k, [], L, rfl, rfl, h1, by simpa using hn, Below.refl _ _, HE, HF⟩
  case round =>
    obtain ⟨kk, D, T, rfl, rfl, hk1, hDT, hbw, hE, hF⟩ := hrel
    cases T with
    | nil =>
      have e1 := hE.out
      simp only [endK] at e1
      subst e1
      simp only [List.length_nil, Nat.add_zero] at hDT
      clear hE hF HE HF h
      have hlt : ¬ ((D.length : Int) < (n : Int)) := by omega
      go_wp2
      go_ret
      exact ⟨rfl, hbw⟩
    | cons r T =>
      have hE' : Hid (endK (nextK kk r) T = E) := hE.out
      have hF' : Hid (D ++ markR kk r :: markRs (nextK kk r) T = F) := hF.out
      have hkE : nextK kk r ≤ E := by have := endK_le T (nextK kk r); rw [hE'.out] at this; exact this
      have m0 : RM B wr (.slice (some ⟨g, 0, none⟩) n cap) (D ++ markR kk r :: markRs (nextK kk r) T) rest := by rw [hF'.out]; exact h.below hbw
      clear hE hF HE HF h
      simp only [List.length_cons] at hDT
      unfold nextK at hkE
      have HM := fun W => markText_any kk W hk1 (by omega)
      have hlt : ((D.length : Int) < (n : Int)) := by omega
      have c0 := m0.cell 0 (by decide)
      simp only [RAt.cells, markR, List.getElem?_cons_zero, Nat.add_zero] at c0
      have lg := World.block_lt_of_cell? wr _ c0
      generalize (⟨(markL kk).toArray⟩ : ByteArray) = M at HM c0
      have hMM : (M.toList != M.toList) = false := by simp
      go_wp2
      go_region_held3 (fun W => W.cell? ⟨g, D.length * 4, none⟩ = some (.string M)) (first | go_keep | (exact (b1.cell lg).trans c0))
        (first | (go_at_call 22; refine (HM _).mono ?_; rintro e w1 ⟨rfl, b1⟩))
      all_goals
        have m1 := m0.below ((Below.refl wr.heap.size wr).drew.trans b1)
        have B1 := hbw.trans (((Below.refl wr.heap.size wr).drew.trans b1).mono hbw.size)
        have c1 := m1.cell 1 (by decide)
        have c2 := m1.cell 2 (by decide)
        have c3 := m1.cell 3 (by decide)
        have o1 : w1.ownsRow B 3 1 r.va (marksI (kk + 1) r.ns.length).length (intsV (marksI (kk + 1) r.ns.length)) := m1.args
        have o2 : w1.ownsRow B 9 1 r.vd (marks (kk + 1 + r.ns.length + 1) r.ds.length).length (strs (marks (kk + 1 + r.ns.length + 1) r.ds.length)) := m1.defs
        rw [marksI_length] at o1
        rw [marks_length] at o2
        simp only [RAt.cells, markR, List.getElem?_cons_zero, List.getElem?_cons_succ] at c1 c2 c3
        have HI := heldInts_own (k := kk + 1) o1 (by omega)
        rw [show ((kk + 1 : Nat) : Int) = (kk : Int) + 1 from by omega] at HI
        have HS := heldStrings_own (k := kk + 1 + r.ns.length + 1) o2 (by omega) (by omega)
        rw [show ((kk + 1 + r.ns.length + 1 : Nat) : Int) = (kk : Int) + 1 + (r.ns.length : Int) + 1 from by omega] at HS
        have hmod : (((kk : Int) + 1 + (r.ns.length : Int)) % 3 == 0) = decide ((kk + 1 + r.ns.length) % 3 = 0) := by
          rw [Bool.eq_iff_iff, beq_iff_eq, decide_eq_true_iff]; omega
        have hpos : (0 : Int) ≤ (kk : Int) + 1 + (r.ns.length : Int) := by omega
        have hpos2 : (0 : Int) ≤ (kk : Int) + 1 + (r.ns.length : Int) + 1 + (r.ds.length : Int) := by omega
        clear m0 m1 b1 HM c0 o1 o2
        generalize hbb : decide ((kk + 1 + r.ns.length) % 3 = 0) = bb at c2 hmod
        clear hbb
        have hbb : (bb != bb) = false := by simp
        go_wp2_with (go_at_call 25; refine HI.mono ?_)
        rintro e w2 ⟨rfl, rfl⟩
        go_wp2_with (go_at_call 26; refine HS.mono ?_)
        rintro e w3 ⟨rfl, b3⟩
        have B3 := B1.trans (b3.mono B1.size)
        go_wp2
        go_roundw
        case rel =>
          exact ⟨nextK kk r, D ++ [markR kk r], T, by simp, by unfold nextK; go_num, by unfold nextK; omega, by simp; omega, B3, hE', by rw [List.append_assoc]; exact hF'⟩
        case measure => simp [intOf]; omega
end Go.Proofs.Ytdcnfbhfpfikjaa
