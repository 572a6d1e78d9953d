import Derived.Test.YtnnpgnkmmahomabGreatDoorBun19
import Derived.Test.YtnnpgnkmmahomabGreatDoorBun16
namespace Go.Proofs.YtnnpgnkmmahomabGreatDoor
open Go.RowKit
/-- Blocks, and rows beside them. -/
def BM (B : Nat) (w : World) (v : Value) (C : List BAt) (rest : List MRow) : Prop := Mem B w (brows v C ++ rest)
theorem BM.below {B : Nat} {w w' : World} {v : Value} {C : List BAt} {rest : List MRow} (h : BM B w v C rest) (hb : Below w.heap.size w w') : BM B w' v C rest := Mem.below h hb
theorem BM.own {B : Nat} {w : World} {v : Value} {C : List BAt} {rest : List MRow} (h : BM B w v C rest) : BlocksOwn B w v C := Mem.left h
theorem BlocksOwn.bm {B : Nat} {w : World} {v : Value} {C : List BAt} (h : BlocksOwn B w v C) : BM B w v C [] := by unfold BM; rw [List.append_nil]; exact h
theorem BM.size {B g n cap : Nat} {w : World} {C : List BAt} {rest : List MRow} (h : BM B w (.slice (some ⟨g, 0, none⟩) n cap) C rest) (hn : C.length = n) : w.ownsRow B 52 3 (.slice (some ⟨g, 0, none⟩) n cap) n (C.flatMap BAt.cells) := by
  subst hn; exact Mem.head h
theorem BM.cell {B g n cap : Nat} {w : World} {D T : List BAt} {r : BAt} {rest : List MRow} (h : BM B w (.slice (some ⟨g, 0, none⟩) n cap) (D ++ r :: T) rest) (c : Nat) (hc : c < 3) : w.cell? ⟨g, D.length * 3 + c, none⟩ = r.cells[c]? := by
  have h1 := (Mem.head h).cells rfl (D.length * 3 + c)
  obtain ⟨u, hu⟩ : ∃ u, r.cells[c]? = some u := ⟨_, List.getElem?_eq_getElem (by simp [BAt.cells]; omega)⟩
  rw [hu]
  rw [← add_off]; exact h1 u (by rw [rowF_at _ 3 BAt.len D T r c hc, hu])
theorem BM.own_lt {B g n cap : Nat} {w : World} {C : List BAt} {rest : List MRow} (h : BM B w (.slice (some ⟨g, 0, none⟩) n cap) C rest) : B ≤ g := (Mem.lt h (List.mem_cons_self ..) (show (Value.slice (some ⟨g, 0, none⟩) n cap).ownBlock = some g from rfl)).1
theorem BM.set {B g n cap : Nat} {w : World} {D T : List BAt} {r : BAt} {rest : List MRow} (h : BM B w (.slice (some ⟨g, 0, none⟩) n cap) (D ++ r :: T) rest) (hn : (D ++ r :: T).length = n) (c : Nat) (u : Value) (r' : BAt) (hc : c < 3) (hr : r'.cells = r.cells.set c u) (hrr : r'.rows = r.rows) :
    BM B (w.setCell ⟨g, D.length * 3 + c, none⟩ u) (.slice (some ⟨g, 0, none⟩) n cap) (D ++ r' :: T) rest := by
  have hst := (h.size hn).stored (D.length * 3 + c) u
  rw [rowF_set _ 3 BAt.len D T r r' c u hc hr] at hst
  unfold BM brows at h ⊢
  have e : (D ++ r' :: T).flatMap BAt.rows = (D ++ r :: T).flatMap BAt.rows := by rw [List.flatMap_append, List.flatMap_append, List.flatMap_cons, List.flatMap_cons, hrr]
  have e2 : (D ++ r' :: T).length = (D ++ r :: T).length := by simp
  rw [e, e2]
  subst hn
  exact Mem.turn h rfl hst.1 hst.2
/-- The rows beside a block's lines. -/
def beside (v : Value) (D : List BAt) (r : BAt) (T : List BAt) (rest : List MRow) : List MRow := (⟨v, 52, 3, (D ++ r :: T).length, (D ++ r :: T).flatMap BAt.cells⟩ :: D.flatMap BAt.rows) ++ (T.flatMap BAt.rows ++ rest)
theorem beside_perm (v : Value) (D : List BAt) (r : BAt) (T : List BAt) (rest : List MRow) : (brows v (D ++ r :: T) ++ rest).Perm (lrows r.v r.ls ++ beside v D r T rest) := by
  have e : brows v (D ++ r :: T) ++ rest = (⟨v, 52, 3, (D ++ r :: T).length, (D ++ r :: T).flatMap BAt.cells⟩ :: D.flatMap BAt.rows) ++ (lrows r.v r.ls ++ (T.flatMap BAt.rows ++ rest)) := by
    unfold brows; rw [List.flatMap_append, List.flatMap_cons]; simp [BAt.rows]
  rw [e]
  exact List.perm_append_comm_assoc _ _ _
theorem BM.lines {B : Nat} {w : World} {v : Value} {D T : List BAt} {r : BAt} {rest : List MRow} (h : BM B w v (D ++ r :: T) rest) : LM B w r.v r.ls (beside v D r T rest) := Mem.perm h (beside_perm v D r T rest)
theorem BM.back {B : Nat} {w : World} {v : Value} {D T : List BAt} {r : BAt} {rest : List MRow} {ls' : List LAt} (h : LM B w r.v ls' (beside v D r T rest)) : BM B w v (D ++ { r with ls := ls' } :: T) rest := by
  refine Mem.perm h (List.Perm.symm ?_)
  have e : beside v D r T rest = beside v D { r with ls := ls' } T rest := by
    unfold beside
    rw [show (D ++ { r with ls := ls' } :: T).flatMap BAt.cells = (D ++ r :: T).flatMap BAt.cells by rw [List.flatMap_append, List.flatMap_append, List.flatMap_cons, List.flatMap_cons]; rfl, show (D ++ { r with ls := ls' } :: T).length = (D ++ r :: T).length by simp]
  rw [e]
  exact beside_perm v D { r with ls := ls' } T rest
/-- A block marked from k on. -/
def markBn (k : Nat) (r : BAt) : BAt := { r with kind := ⟨(markL k).toArray⟩, name := ⟨(markL (k + 1)).toArray⟩, ls := markLs (k + 2) r.ls }
def nextB (k : Nat) (r : BAt) : Nat := endL (k + 2) r.ls
def markBs : Nat → List BAt → List BAt
  | _, [] => []
  | k, r :: L => markBn k r :: markBs (nextB k r) L
def endB : Nat → List BAt → Nat
  | k, [] => k
  | k, r :: L => endB (nextB k r) L
theorem nextB_le (k : Nat) (r : BAt) : k + 2 ≤ nextB k r := endL_le _ _
theorem endB_le : ∀ (L : List BAt) (k : Nat), k ≤ endB k L
  | [], k => Nat.le_refl _
  | r :: L, k => Nat.le_trans (by have := nextB_le k r; omega) (endB_le L (nextB k r))
theorem markBs_length : ∀ (L : List BAt) (k : Nat), (markBs k L).length = L.length
  | [], k => rfl
  | r :: L, k => by simp [markBs, markBs_length L]
theorem endB_small : ∀ (L : List BAt) (k : Nat), (∀ r ∈ L, LinesSmall r.ls) → endB k L ≤ k + 1099512676354 * L.length
  | [], k, _ => by simp [endB]
  | r :: L, k, h => by
    have h1 := h r (by simp)
    have h2 := endB_small L (nextB k r) (fun x hx => h x (by simp [hx]))
    have h3 := endL_small r.ls (k + 2) (fun x hx => (h1.2 x hx).1)
    have h4 := h1.1
    simp only [endB, List.length_cons]
    unfold nextB at h2 ⊢
    omega
theorem endB_fits {L : List BAt} (h : BlocksSmall L) : endB 1 L ≤ 2305843009213693952 := by
  have h1 := endB_small L 1 (fun x hx => (h.2 x hx).2)
  have h2 := h.1
  omega
set_option maxHeartbeats 400000 in
theorem markBlocks_zero (ao : Option Addr) (cap k : Nat) (w : World) : Calls Tryz.prog 44 #[.slice ao 0 cap, .int .i64 (k : Int)] w fun e w' => e = .returned (.int .i64 (k : Int)) ∧ w' = w := by
  go_enter Tryz.func44, Tryz.ntmps44
  go_wp2
  refine wp_loop_rounds 1 ?_
  rw [rounds_succ]
  go_wp2
  go_ret
  exact ⟨rfl, rfl⟩
set_option maxHeartbeats 400000 in
theorem heldBlocks_zero (ao : Option Addr) (cap k : Nat) (w : World) : Calls Tryz.prog 45 #[.slice ao 0 cap, .int .i64 (k : Int)] w fun e w' => e = .returned (.int .i64 (k : Int)) ∧ w' = w := by
  go_enter Tryz.func45, Tryz.ntmps45
  go_wp2
  refine wp_loop_rounds 1 ?_
  rw [rounds_succ]
  go_wp2
  go_ret
  exact ⟨rfl, rfl⟩
set_option maxHeartbeats 2000000 in
set_option maxRecDepth 100000 in
theorem markBlocks_any {B g n cap k : Nat} {L : List BAt} {rest : List MRow} {w : World} (hB : B ≤ w.heap.size) (h : BM B w (.slice (some ⟨g, 0, none⟩) n cap) L rest) (hn : L.length = n) (hn2 : n ≤ 1048576) (hs : ∀ x ∈ L, x.ls.length ≤ 1048576) (h1 : 1 ≤ k) (h2 : endB k L ≤ 4611686018427387904) :
    Calls Tryz.prog 44 #[.slice (some ⟨g, 0, none⟩) n cap, .int .i64 (k : Int)] w fun e w' => e = .returned (.int .i64 (endB k L : Int)) ∧ BM B w' (.slice (some ⟨g, 0, none⟩) n cap) (markBs k L) rest ∧ Below B w w' := by
  obtain ⟨E, hE⟩ : ∃ E, endB k L = E := ⟨_, rfl⟩
  obtain ⟨F, hF⟩ : ∃ F, markBs k L = F := ⟨_, rfl⟩
  have HE : Hid (endB k L = E) := hE
  have HF : Hid (markBs k L = F) := hF
  rw [hE] at h2
  rw [hE, hF]
  clear hE hF
  have HSM := hid_in hs
  clear hs
  go_enter Tryz.func44, Tryz.ntmps44
  go_wp2
  go_loopw [1, 5] (fun q i wr => ∃ (kk : Nat) (D T : List BAt), i = .int .i64 (D.length : Int) ∧ q = .int .i64 (kk : Int) ∧ 1 ≤ kk ∧ D.length + T.length = n ∧ BM B wr (.slice (some ⟨g, 0, none⟩) n cap) (D ++ T) rest ∧ Below B w wr ∧ Hid (∀ x ∈ T, x.ls.length ≤ 1048576) ∧ Hid (endB kk T = E) ∧ Hid (D ++ markBs kk T = F)) (fun _ i _ => n - (intOf i).toNat)
  case atStart => exact ⟨k, [], L, rfl, rfl, h1, by simpa using hn, h, Below.refl _ _, HSM, HE, HF⟩
  case round =>
    obtain ⟨kk, D, T, rfl, rfl, hk1, hDT, hm, hbw, hsm, hE, hF⟩ := hrel
    cases T with
    | nil =>
      have e1 := hE.out
      have e2 := hF.out
      simp only [endB, markBs, List.append_nil] at e1 e2 hm
      subst e1 e2
      simp only [List.length_nil, Nat.add_zero] at hDT
      clear hE hF HE HF h hsm HSM
      have hlt : ¬ ((D.length : Int) < (n : Int)) := by omega
      go_wp2
      go_ret
      exact ⟨rfl, hm, hbw⟩
    | cons r T =>
      have hE' : Hid (endB (nextB kk r) T = E) := hE.out
      have hF' : Hid (D ++ markBn kk r :: markBs (nextB kk r) T = F) := hF.out
      have hkE : nextB kk r ≤ E := by have := endB_le T (nextB kk r); rw [hE'.out] at this; exact this
      have hsm' := hid_in (show ∀ x ∈ T, x.ls.length ≤ 1048576 from fun x hx => hsm.out x (by simp [hx]))
      have hrl : r.ls.length ≤ 1048576 := hsm.out r (by simp)
      have hNB := nextB_le kk r
      clear hE hF HE HF h hsm HSM
      simp only [List.length_cons] at hDT
      have HM := fun W => markText_any kk W hk1 (by omega)
      have HM2 := fun W => markText_any (kk + 1) W (by omega) (by omega)
      rw [show ((kk + 1 : Nat) : Int) = (kk : Int) + 1 from by omega] at HM2
      have hlt : ((D.length : Int) < (n : Int)) := by omega
      go_wp2_with (go_at_call 67; refine (HM _).mono ?_)
      rintro e w1 ⟨rfl, b1⟩
      have m1 := hm.below b1
      have hnn : ∀ x : BAt, (D ++ x :: T).length = n := fun x => by simp; omega
      have c0 := m1.cell 0 (by decide)
      have f0 := (m1.size (hnn _)).frozenAt (D.length * 3)
      have m2 := m1.set (hnn _) 0 (.string ⟨(markL kk).toArray⟩) { r with kind := ⟨(markL kk).toArray⟩ } (by decide) rfl rfl
      simp only [BAt.cells, List.getElem?_cons_zero, Nat.add_zero] at c0 m2
      have B2 := (hbw.trans (b1.mono (Nat.le_trans hB hbw.size))).setCell (p := ⟨g, D.length * 3, none⟩) hm.own_lt (.string ⟨(markL kk).toArray⟩)
      clear HM hm b1 m1
      generalize hw2 : w1.setCell ⟨g, D.length * 3, none⟩ (.string ⟨(markL kk).toArray⟩) = w2 at *
      go_wp2_with (go_at_call 67; refine (HM2 _).mono ?_)
      first | rintro e w3 rfl b3 | rintro e w3 ⟨rfl, b3⟩
      clear hw2
      have m3 := m2.below b3
      have d0 := m3.cell 1 (by decide)
      have f1 := (m3.size (hnn _)).frozenAt (D.length * 3 + 1)
      have m4 := m3.set (hnn _) 1 (.string ⟨(markL (kk + 1)).toArray⟩) { r with kind := ⟨(markL kk).toArray⟩, name := ⟨(markL (kk + 1)).toArray⟩ } (by decide) rfl rfl
      have d2 := m4.cell 2 (by decide)
      have e2 := m3.cell 2 (by decide)
      simp only [BAt.cells, List.getElem?_cons_zero, List.getElem?_cons_succ] at d0 d2 e2
      have B4 := (B2.trans (b3.mono (Nat.le_trans hB B2.size))).setCell (p := ⟨g, D.length * 3 + 1, none⟩) m3.own_lt (.string ⟨(markL (kk + 1)).toArray⟩)
      have m4l := m4.lines
      have HS := markLines_own (k := kk + 2) (Nat.le_trans hB B4.size) m4l hrl (by omega) (by show nextB kk r ≤ _; omega)
      rw [show ((kk + 2 : Nat) : Int) = (kk : Int) + 1 + 1 from by omega] at HS
      clear m2 m3 b3 c0 f0
      go_wp2_with (go_at_call 26; refine HS.mono ?_)
      first | rintro e w5 rfl l5 b5 | rintro e w5 ⟨rfl, l5, b5⟩
      have m5 := hid_in (BM.back (r := { r with kind := ⟨(markL kk).toArray⟩, name := ⟨(markL (kk + 1)).toArray⟩ }) l5)
      have B5 := B4.trans b5
      have hE2 := hid_in (show endL (kk + 2) r.ls = nextB kk r from rfl)
      clear m4 m4l HS d0 d2 e2 f1 l5
      go_wp2
      go_roundw
      case rel =>
        refine ⟨nextB kk r, D ++ [markBn kk r], T, by simp, rfl, by omega, by simp; omega, ?_, B5, hsm', hE', by rw [List.append_assoc]; exact hF'⟩
        rw [List.append_assoc]; exact m5.out
      case measure => simp [intOf]; omega
set_option maxHeartbeats 2000000 in
set_option maxRecDepth 100000 in
theorem heldBlocks_any {B g n cap k : Nat} {L : List BAt} {w : World} (h : BlocksOwn B w (.slice (some ⟨g, 0, none⟩) n cap) (markBs k L)) (hn : L.length = n) (hn2 : n ≤ 1048576) (hs : ∀ x ∈ L, x.ls.length ≤ 1048576) (h1 : 1 ≤ k) (h2 : endB k L ≤ 4611686018427387904) :
    Calls Tryz.prog 45 #[.slice (some ⟨g, 0, none⟩) n cap, .int .i64 (k : Int)] w fun e w' => e = .returned (.int .i64 (endB k L : Int)) ∧ Below w.heap.size w w' := by
  obtain ⟨E, hE⟩ : ∃ E, endB k L = E := ⟨_, rfl⟩
  obtain ⟨F, hF⟩ : ∃ F, markBs k L = F := ⟨_, rfl⟩
  have HE : Hid (endB k L = E) := hE
  have HF : Hid (markBs k L = F) := hF
  rw [hE] at h2
  rw [hF] at h
  rw [hE]
  clear hE hF
  have HSM := hid_in hs
  clear hs
  go_enter Tryz.func45, Tryz.ntmps45
  go_wp2
  go_loopw [1, 5] (fun q i wr => ∃ (kk : Nat) (D T : List BAt), i = .int .i64 (D.length : Int) ∧ q = .int .i64 (kk : Int) ∧ 1 ≤ kk ∧ D.length + T.length = n ∧ Below w.heap.size w wr ∧ Hid (∀ x ∈ T, x.ls.length ≤ 1048576) ∧ Hid (endB kk T = E) ∧ Hid (D ++ markBs kk T = F)) (fun _ i _ => n - (intOf i).toNat)
  case atStart => exact ⟨k, [], L, rfl, rfl, h1, by simpa using hn, Below.refl _ _, HSM, HE, HF⟩
  case round =>
    obtain ⟨kk, D, T, rfl, rfl, hk1, hDT, hbw, hsm, hE, hF⟩ := hrel
    cases T with
    | nil =>
      have e1 := hE.out
      simp only [endB] at e1
      subst e1
      simp only [List.length_nil, Nat.add_zero] at hDT
      clear hE hF HE HF h hsm HSM
      have hlt : ¬ ((D.length : Int) < (n : Int)) := by omega
      go_wp2
      go_ret
      exact ⟨rfl, hbw⟩
    | cons r T =>
      have hE' : Hid (endB (nextB kk r) T = E) := hE.out
      have hF' : Hid (D ++ markBn kk r :: markBs (nextB kk r) T = F) := hF.out
      have hkE : nextB kk r ≤ E := by have := endB_le T (nextB kk r); rw [hE'.out] at this; exact this
      have hsm' := hid_in (show ∀ x ∈ T, x.ls.length ≤ 1048576 from fun x hx => hsm.out x (by simp [hx]))
      have hrl : r.ls.length ≤ 1048576 := hsm.out r (by simp)
      have hNB := nextB_le kk r
      have m0 : BM B wr (.slice (some ⟨g, 0, none⟩) n cap) (D ++ markBn kk r :: markBs (nextB kk r) T) [] := by rw [hF'.out]; exact h.bm.below hbw
      clear hE hF HE HF h hsm HSM
      simp only [List.length_cons] at hDT
      have HM := fun W => markText_any kk W hk1 (by omega)
      have HM2 := fun W => markText_any (kk + 1) W (by omega) (by omega)
      rw [show ((kk + 1 : Nat) : Int) = (kk : Int) + 1 from by omega] at HM2
      have hlt : ((D.length : Int) < (n : Int)) := by omega
      have c0 := m0.cell 0 (by decide)
      simp only [BAt.cells, markBn, List.getElem?_cons_zero, Nat.add_zero] at c0
      have lg := World.block_lt_of_cell? wr _ c0
      generalize (⟨(markL kk).toArray⟩ : ByteArray) = M at HM c0
      have hMM : (M.toList != M.toList) = false := by simp
      go_wp2
      go_region_held3 (fun W => W.cell? ⟨g, D.length * 3, none⟩ = some (.string M)) (first | go_keep | (exact (b1.cell lg).trans c0))
        (first | (go_at_call 67; refine (HM _).mono ?_; rintro e w1 ⟨rfl, b1⟩))
      all_goals
        have m1 := m0.below ((Below.refl wr.heap.size wr).drew.trans b1)
        have B1 := hbw.trans (((Below.refl wr.heap.size wr).drew.trans b1).mono hbw.size)
        have c1 := m1.cell 1 (by decide)
        simp only [BAt.cells, markBn, List.getElem?_cons_zero, List.getElem?_cons_succ] at c1
        have lg1 := World.block_lt_of_cell? w1 _ c1
        generalize (⟨(markL (kk + 1)).toArray⟩ : ByteArray) = M2 at HM2 c1
        have hMM2 : (M2.toList != M2.toList) = false := by simp
        clear m0 b1 HM c0
        go_wp2
        go_region_held3 (fun W => W.cell? ⟨g, D.length * 3 + 1, none⟩ = some (.string M2)) (first | go_keep | (exact (b2.cell lg1).trans c1))
          (first | (go_at_call 67; refine (HM2 _).mono ?_; rintro e w2 ⟨rfl, b2⟩))
        all_goals
          have m2 := m1.below ((Below.refl w1.heap.size w1).drew.trans b2)
          have B2 := B1.trans (((Below.refl w1.heap.size w1).drew.trans b2).mono B1.size)
          have c2 := m2.cell 2 (by decide)
          simp only [BAt.cells, markBn, List.getElem?_cons_zero, List.getElem?_cons_succ] at c2
          have l2 : LinesOwn B w2 r.v (markLs (kk + 2) r.ls) := m2.lines.own
          have HS := heldLines_own (k := kk + 2) l2 hrl (by omega) (by show nextB kk r ≤ _; omega)
          rw [show ((kk + 2 : Nat) : Int) = (kk : Int) + 1 + 1 from by omega] at HS
          have hpos2 : ¬ ((endL (kk + 2) r.ls : Int) < 0) := by omega
          clear m1 m2 b2 HM2 c1 l2
          go_wp2_with (go_at_call 27; refine HS.mono ?_)
          first | rintro e w3 rfl b3 | rintro e w3 ⟨rfl, b3⟩
          have B3 := B2.trans (b3.mono B2.size)
          clear HS c2
          go_wp2
          go_roundw
          case rel => exact ⟨nextB kk r, D ++ [markBn kk r], T, by simp, rfl, by omega, by simp; omega, B3, hsm', hE', by rw [List.append_assoc]; exact hF'⟩
          case measure => simp [intOf]; omega
theorem BM.form {B : Nat} {w : World} {v : Value} {C : List BAt} {rest : List MRow} (h : BM B w v C rest) : ∃ ao cap, v = .slice ao C.length cap ∧ (C = [] ∨ ∃ g, ao = some ⟨g, 0, none⟩) := by
  obtain ⟨ao, cap, e, hf⟩ := own_form h.own.row
  exact ⟨ao, cap, e, hf.imp (fun h0 => List.length_eq_zero_iff.1 h0) id⟩
theorem markBlocks_own {B k : Nat} {v : Value} {L : List BAt} {rest : List MRow} {w : World} (hB : B ≤ w.heap.size) (h : BM B w v L rest) (hn2 : L.length ≤ 1048576) (hs : ∀ x ∈ L, x.ls.length ≤ 1048576) (h1 : 1 ≤ k) (h2 : endB k L ≤ 4611686018427387904) :
    Calls Tryz.prog 44 #[v, .int .i64 (k : Int)] w fun e w' => e = .returned (.int .i64 (endB k L : Int)) ∧ BM B w' v (markBs k L) rest ∧ Below B w w' := by
  obtain ⟨ao, cap, rfl, hf⟩ := h.form
  rcases hf with rfl | ⟨g, rfl⟩
  · exact (markBlocks_zero ao cap k w).mono fun e w' h' => ⟨h'.1, by rw [h'.2]; exact h, by rw [h'.2]; exact Below.refl _ _⟩
  · exact markBlocks_any hB h rfl hn2 hs h1 h2
theorem heldBlocks_own {B k : Nat} {v : Value} {L : List BAt} {w : World} (h : BlocksOwn B w v (markBs k L)) (hn2 : L.length ≤ 1048576) (hs : ∀ x ∈ L, x.ls.length ≤ 1048576) (h1 : 1 ≤ k) (h2 : endB k L ≤ 4611686018427387904) :
    Calls Tryz.prog 45 #[v, .int .i64 (k : Int)] w fun e w' => e = .returned (.int .i64 (endB k L : Int)) ∧ Below w.heap.size w w' := by
  obtain ⟨ao, cap, rfl, hf⟩ := h.bm.form
  rw [markBs_length] at *
  rcases hf with h0 | ⟨g, rfl⟩
  · obtain rfl : L = [] := List.length_eq_zero_iff.1 (by rw [← markBs_length L k, h0]; rfl)
    exact (heldBlocks_zero ao cap k w).mono fun e w' h' => ⟨h'.1, by rw [h'.2]; exact Below.refl _ _⟩
  · exact heldBlocks_any h rfl hn2 hs h1 h2
set_option maxHeartbeats 1000000 in
set_option maxRecDepth 100000 in
theorem markSheet_own {B k : Nat} {v : Value} {L : List BAt} {rest : List MRow} {w : World} (hB : B ≤ w.heap.size) (h : BM B w v L rest) (hn2 : L.length ≤ 1048576) (hs : ∀ x ∈ L, x.ls.length ≤ 1048576) (h1 : 1 ≤ k) (h2 : endB k L ≤ 4611686018427387904) :
    Calls Tryz.prog 13 #[.agg #[v], .int .i64 (k : Int)] w fun e w' => e = .returned (.int .i64 (endB k L : Int)) ∧ BM B w' v (markBs k L) rest ∧ Below B w w' := by
  have G := (Below.refl w.heap.size w).alloc (Nat.le_refl _) (.cells #[v] 24)
  have k0 := one_box (w := w) (cs := #[v]) (T := 24) 0
  simp only [List.getElem?_toArray, List.getElem?_cons_zero] at k0
  have HE := markBlocks_own (k := k) (Nat.le_trans hB G.size) (h.below G) hn2 hs h1 h2
  obtain ⟨ao, cap, rfl, _⟩ := h.form
  generalize endB k L = E at *
  generalize markBs k L = F at *
  clear h hs hn2
  generalize L.length = n at *
  go_enter Tryz.func13, Tryz.ntmps13
  go_wp2_with (go_at_call 44; refine HE.mono ?_)
  first | rintro e w2 rfl b2 b3 | rintro e w2 ⟨rfl, b2, b3⟩
  go_wp2
  go_ret
  exact ⟨rfl, b2, (G.mono hB).trans b3⟩
set_option maxHeartbeats 1000000 in
set_option maxRecDepth 100000 in
theorem heldSheet_own {B k : Nat} {v : Value} {L : List BAt} {w : World} (h : BlocksOwn B w v (markBs k L)) (hn2 : L.length ≤ 1048576) (hs : ∀ x ∈ L, x.ls.length ≤ 1048576) (h1 : 1 ≤ k) (h2 : endB k L ≤ 4611686018427387904) :
    Calls Tryz.prog 14 #[.agg #[v], .int .i64 (k : Int)] w fun e w' => e = .returned (.int .i64 (endB k L : Int)) ∧ Below w.heap.size w w' := by
  have G := (Below.refl w.heap.size w).alloc (Nat.le_refl _) (.cells #[v] 24)
  have k0 := one_box (w := w) (cs := #[v]) (T := 24) 0
  simp only [List.getElem?_toArray, List.getElem?_cons_zero] at k0
  have HE := heldBlocks_own (k := k) (h.below G) hn2 hs h1 h2
  obtain ⟨ao, cap, rfl, _⟩ := own_form h.row
  have hpos : ¬ ((endB k L : Int) < 0) := by omega
  generalize endB k L = E at *
  clear h hs hn2
  generalize (markBs k L).length = n at *
  go_enter Tryz.func14, Tryz.ntmps14
  go_wp2_with (go_at_call 45; refine HE.mono ?_)
  first | rintro e w2 rfl b2 | rintro e w2 ⟨rfl, b2⟩
  go_wp2
  go_ret
  exact ⟨rfl, G.trans (b2.mono (by simp))⟩
end Go.Proofs.YtnnpgnkmmahomabGreatDoor
namespace Go.Proofs.YtnnpgnkmmahomabGreatDoor
open Go.RowKit
/-- What calls of a law leave, behind plain words (the walk does not look into them). -/
def ShPost (P : List PBlock) (w : World) (e : Ending) (w' : World) : Prop := ∃ v' bs', e = .returned (.agg #[v']) ∧ bs'.map BAt.plain = P ∧ BlocksOwn w.heap.size w' v' bs' ∧ Below w.heap.size w w'
def LsPost (G : Bool × List PLine) (w : World) (e : Ending) (w' : World) : Prop := ∃ v' ls', e = .returned (.tuple #[v', .bool G.1]) ∧ ls'.map LAt.plain = G.2 ∧ LinesOwn w.heap.size w' v' ls' ∧ LinesSmall ls' ∧ Below w.heap.size w w'
def BoolPost (b : Bool) (w : World) (e : Ending) (w' : World) : Prop := e = .returned (.bool b) ∧ Below w.heap.size w w'
def IntPost (n : Nat) (w : World) (e : Ending) (w' : World) : Prop := e = .returned (.int .i64 (n : Int)) ∧ Below w.heap.size w w'
def MarkB (B : Nat) (v : Value) (L : List BAt) (rest : List MRow) (w : World) (e : Ending) (w' : World) : Prop := e = .returned (.int .i64 (endB 1 L : Int)) ∧ BM B w' v (markBs 1 L) rest ∧ Below B w w'
def MarkL (B : Nat) (v : Value) (L : List LAt) (rest : List MRow) (w : World) (e : Ending) (w' : World) : Prop := e = .returned (.int .i64 (endL 1 L : Int)) ∧ LM B w' v (markLs 1 L) rest ∧ Below B w w'
theorem toSheet_p {v : Value} {bs : List BAt} {w : World} (h : BlocksIn w v bs) (hs : BlocksSmall bs) : Calls Tryz.prog 17 #[.agg #[v]] w fun e w' => ShPost (bs.map BAt.plain) w e w' := toSheet_any h hs
theorem eqSheet_p {v u : Value} {xs ys : List BAt} {w : World} (h1 : BlocksIn w v xs) (h2 : BlocksIn w u ys) (he : xs.map BAt.plain = ys.map BAt.plain) (hs : xs.length ≤ 1048576 ∧ ∀ x ∈ xs, LinesSmall x.ls) : Calls Tryz.prog 11 #[.agg #[v], .agg #[u]] w fun e w' => BoolPost true w e w' := eqSheet_any h1 h2 he hs
theorem eqLines_p {v u : Value} {xs ys : List LAt} {w : World} (h1 : LinesIn w v xs) (h2 : LinesIn w u ys) (he : xs.map LAt.plain = ys.map LAt.plain) (hs : LinesSmall xs) : Calls Tryz.prog 25 #[v, u] w fun e w' => BoolPost true w e w' := eqLines_any h1 h2 he hs
theorem markSheet_p {B : Nat} {v : Value} {L : List BAt} {rest : List MRow} {w : World} (hB : B ≤ w.heap.size) (h : BM B w v L rest) (hs : BlocksSmall L) : Calls Tryz.prog 13 #[.agg #[v], .int .i64 1] w fun e w' => MarkB B v L rest w e w' :=
  markSheet_own (k := 1) hB h hs.1 (fun x hx => (hs.2 x hx).2.1) (Nat.le_refl _) (Nat.le_trans (endB_fits hs) (by decide))
theorem heldSheet_p {B : Nat} {v : Value} {L : List BAt} {w : World} (h : BlocksOwn B w v (markBs 1 L)) (hs : BlocksSmall L) : Calls Tryz.prog 14 #[.agg #[v], .int .i64 1] w fun e w' => IntPost (endB 1 L) w e w' :=
  heldSheet_own (k := 1) h hs.1 (fun x hx => (hs.2 x hx).2.1) (Nat.le_refl _) (Nat.le_trans (endB_fits hs) (by decide))
theorem endL_fits {L : List LAt} (h : LinesSmall L) : endL 1 L ≤ 4611686018427387904 := by
  have h1 := endL_small L 1 (fun x hx => (h.2 x hx).1)
  have h2 := h.1
  omega
theorem markLines_p {B : Nat} {v : Value} {L : List LAt} {rest : List MRow} {w : World} (hB : B ≤ w.heap.size) (h : LM B w v L rest) (hs : LinesSmall L) : Calls Tryz.prog 26 #[v, .int .i64 1] w fun e w' => MarkL B v L rest w e w' :=
  markLines_own (k := 1) hB h hs.1 (Nat.le_refl _) (endL_fits hs)
theorem heldLines_p {B : Nat} {v : Value} {L : List LAt} {w : World} (h : LinesOwn B w v (markLs 1 L)) (hs : LinesSmall L) : Calls Tryz.prog 27 #[v, .int .i64 1] w fun e w' => IntPost (endL 1 L) w e w' :=
  heldLines_own (k := 1) h hs.1 (Nat.le_refl _) (endL_fits hs)
/-- A block of one struct, as a row. -/
theorem box_row (w : World) (v : Value) (T : TypeId) : (w.alloc (.cells #[v] T)).ownsRow w.heap.size T 1 (.slice (some ⟨w.heap.size, 0, none⟩) 1 1) 1 [v] := World.ownsRow_lit (base := w.heap.size) (e := T) (size := 1) w #[v] 1 (Nat.le_refl _) (by decide) rfl
theorem row_box {B g : Nat} {w : World} {T : TypeId} {v : Value} (h : w.ownsRow B T 1 (.slice (some ⟨g, 0, none⟩) 1 1) 1 [v]) : w.cell? ⟨g, 0, none⟩ = some v := by
  have := h.cells (g := g) rfl 0 v rfl
  rwa [add_off] at this
end Go.Proofs.YtnnpgnkmmahomabGreatDoor
