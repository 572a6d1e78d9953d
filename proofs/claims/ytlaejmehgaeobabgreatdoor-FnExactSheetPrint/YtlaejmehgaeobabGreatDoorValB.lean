import Derived.Test.YtlaejmehgaeobabGreatDoorValA
namespace Go.Proofs.YtlaejmehgaeobabGreatDoor
open Go.RowKit
/-- Two blocks, two lines, as the program compares them. -/
def blockCmp (ka na kb nb : ByteArray) : Int := orI (cmpL ka.toList kb.toList) (cmpL na.toList nb.toList)
def lineCmp (R : List Plain) (a b : PLine) : Int := orI (cmpI (placeI R a.key) (placeI R b.key)) (cmpL a.ws b.ws)
theorem blockCmp_lt (a b : PBlock) : blockCmp a.kind a.name b.kind b.name < 0 ↔ blockLt a b = true := by
  unfold blockCmp orI
  rw [blockLt_iff]
  by_cases h : cmpL a.kind.toList b.kind.toList = 0
  · rw [if_pos h, cmpL_lt]
    rw [cmpL_zero] at h
    rw [h]
    constructor
    · exact fun k => .inr ⟨rfl, k⟩
    · rintro (k | ⟨_, k⟩)
      · exact absurd k (Tot.irr _)
      · exact k
  · rw [if_neg h, cmpL_lt]
    rw [cmpL_zero] at h
    constructor
    · exact fun k => .inl k
    · rintro (k | ⟨k, _⟩)
      · exact k
      · exact absurd k h
theorem lineCmp_lt (R : List Plain) (a b : PLine) : lineCmp R a b < 0 ↔ lineLt R a b = true := by
  unfold lineCmp orI cmpI
  rw [lineLt_iff]
  by_cases h : placeI R a.key < placeI R b.key
  · rw [if_pos h, if_neg (by decide)]
    exact ⟨fun _ => .inl h, fun _ => by decide⟩
  · rw [if_neg h]
    by_cases k : placeI R b.key < placeI R a.key
    · rw [if_pos k, if_neg (by decide)]
      constructor
      · intro q; omega
      · rintro (q | ⟨q, _⟩) <;> omega
    · rw [if_neg k, if_pos rfl, cmpL_lt]
      constructor
      · exact fun q => .inr ⟨by omega, q⟩
      · rintro (q | ⟨_, q⟩)
        · omega
        · exact q
theorem two_boxes {w : World} {cs ds : Array Value} {T U : TypeId} : (∀ j : Nat, ((w.alloc (.cells cs T)).alloc (.cells ds U)).cell? ⟨w.heap.size, j, none⟩ = cs[j]?) ∧ ∀ j : Nat, ((w.alloc (.cells cs T)).alloc (.cells ds U)).cell? ⟨w.heap.size + 1, j, none⟩ = ds[j]? := by
  constructor
  · intro j
    unfold World.cell?
    rw [alloc_there _ _ _ (by simp), alloc_here]; rfl
  · intro j
    unfold World.cell?
    have := alloc_here (w.alloc (.cells cs T)) (.cells ds U)
    simp only [World.size_alloc] at this
    rw [this]; rfl
set_option maxHeartbeats 2000000 in
set_option maxRecDepth 100000 in
theorem compareBlocks_any (ka na kb nb : ByteArray) (la lb ca cb : Nat) (aa ab : Option Addr) (w : World) : Calls Tryz.prog 27 #[.agg #[.string ka, .string na, .slice aa la ca], .agg #[.string kb, .string nb, .slice ab lb cb]] w fun e w' => e = .returned (.int .i64 (blockCmp ka na kb nb)) ∧ Grown w w' := by
  have G := ((Grown.refl w).alloc (.cells #[.string ka, .string na, .slice aa la ca] 44)).alloc (.cells #[.string kb, .string nb, .slice ab lb cb] 44)
  have hc := two_boxes (w := w) (cs := #[.string ka, .string na, .slice aa la ca]) (ds := #[.string kb, .string nb, .slice ab lb cb]) (T := 44) (U := 44)
  have c0 := hc.1 0
  have c1 := hc.1 1
  have d0 := hc.2 0
  have d1 := hc.2 1
  simp only [List.getElem?_toArray, List.getElem?_cons_zero, List.getElem?_cons_succ] at c0 c1 d0 d1
  clear hc
  have HS := fun a b W => strCompare_any a b W
  have HO := fun (x y : Int) (W : World) => orInt_any x y W.heap.size (W.alloc (.cells #[.int .i64 x, .int .i64 y] 3)).drew (one_box (w := W) 0) (one_box (w := W) 1)
  go_enter Tryz.func27, Tryz.ntmps27
  go_wp2
  generalize (w.alloc (.cells #[.string ka, .string na, .slice aa la ca] 44)).alloc (.cells #[.string kb, .string nb, .slice ab lb cb] 44) = W at *
  generalize w.heap.size = g at *
  go_region_held3 (fun W' => W'.cell? ⟨g, 0, none⟩ = some (.string ka) ∧ W'.cell? ⟨g, 1, none⟩ = some (.string na) ∧ W'.cell? ⟨g + 1, 0, none⟩ = some (.string kb) ∧ W'.cell? ⟨g + 1, 1, none⟩ = some (.string nb)) (go_keep)
    (first | (go_at_call 64; refine (HS _ _ _).mono ?_; rintro e wx ⟨rfl, rfl⟩) | (go_at_call 58; refine (HO _ _ _).mono ?_; rintro e wx ⟨rfl, rfl⟩))
  all_goals
    go_wp2
    go_ret
    exact ⟨rfl, (G.alloc _).drewN 1⟩
/-- What the order of lines reads: the captured rules, the two lines' boxes. -/
theorem ord_keep {W0 W W1 : World} {g h k : Nat} {v va vb : Value} {ka kb : ByteArray} (hS : Grown W0 W ∧ W.cell? ⟨g, 0, none⟩ = some v ∧ W.cell? ⟨h, 0, none⟩ = some (.string ka) ∧ W.cell? ⟨h, 1, none⟩ = some va ∧ W.cell? ⟨k, 0, none⟩ = some (.string kb) ∧ W.cell? ⟨k, 1, none⟩ = some vb) (G : Grown W W1) :
    Grown W0 W1 ∧ W1.cell? ⟨g, 0, none⟩ = some v ∧ W1.cell? ⟨h, 0, none⟩ = some (.string ka) ∧ W1.cell? ⟨h, 1, none⟩ = some va ∧ W1.cell? ⟨k, 0, none⟩ = some (.string kb) ∧ W1.cell? ⟨k, 1, none⟩ = some vb := by
  obtain ⟨h0, h1, h2, h3, h4, h5⟩ := hS
  have kc : ∀ {a : Addr} {u : Value}, W.cell? a = some u → W1.cell? a = some u := fun hc => (G.1.cell (World.block_lt_of_cell? W _ hc)).trans hc
  exact ⟨h0.trans G, kc h1, kc h2, kc h3, kc h4, kc h5⟩
theorem Grown.drew1 (w : World) : Grown w w.drew := (Grown.refl w).drewN 1
set_option maxHeartbeats 4000000 in
set_option maxRecDepth 100000 in
theorem lineOrder_any {v va vb : Value} {L : List RAt} (a b : PLine) (g : Nat) {w : World} (hr : RulesIn w v L) (hl : L.length ≤ 12) (hg : w.cell? ⟨g, 0, none⟩ = some v) (ha : HasRow w va a.ws.length 1 (strs a.ws)) (hb : HasRow w vb b.ws.length 1 (strs b.ws)) (la : a.ws.length ≤ 1048576) (lb : b.ws.length ≤ 1048576) : Calls Tryz.prog 57 #[.agg #[.string a.key, va], .agg #[.string b.key, vb], .pointer (some ⟨g, 0, none⟩)] w fun e w' => e = .returned (.int .i64 (lineCmp (L.map RAt.plain) a b)) ∧ Grown w w' := by
  obtain ⟨aa, ca, rfl⟩ := ha.form
  obtain ⟨ab, cb, rfl⟩ := hb.form
  obtain ⟨ar, cr, rfl⟩ := hr.1.form
  generalize hna : a.ws.length = na at *
  generalize hnb : b.ws.length = nb at *
  generalize hnr : L.length = nr at *
  have G := ((Grown.refl w).alloc (.cells #[.string a.key, .slice aa na ca] 63)).alloc (.cells #[.string b.key, .slice ab nb cb] 63)
  have hc := two_boxes (w := w) (cs := #[.string a.key, .slice aa na ca]) (ds := #[.string b.key, .slice ab nb cb]) (T := 63) (U := 63)
  have c0 := hc.1 0
  have c1 := hc.1 1
  have d0 := hc.2 0
  have d1 := hc.2 1
  simp only [List.getElem?_toArray, List.getElem?_cons_zero, List.getElem?_cons_succ] at c0 c1 d0 d1
  clear hc
  have hr1 := hr.below G.1
  have ha1 := ha.below G.1
  have hb1 := hb.below G.1
  have hg1 := (G.1.cell (World.block_lt_of_cell? w _ hg)).trans hg
  have HO := fun (x y : Int) (W : World) => orInt_any x y W.heap.size (W.alloc (.cells #[.int .i64 x, .int .i64 y] 3)).drew (one_box (w := W) 0) (one_box (w := W) 1)
  have HP := fun (x y : Int) (W : World) => orInt_any x y W.heap.size (W.alloc (.cells #[.int .i64 x, .int .i64 y] 3)) (one_box (w := W) 0) (one_box (w := W) 1)
  have HI := fun (x y : Int) (W : World) => compareInt_any x y W
  unfold lineCmp
  clear hr ha hb hg
  go_enter Tryz.func57, Tryz.ntmps57
  go_wp2
  generalize (w.alloc (.cells #[.string a.key, .slice aa na ca] 63)).alloc (.cells #[.string b.key, .slice ab nb cb] 63) = W at *
  generalize w.heap.size = h at *
  have HK : ∀ (key : ByteArray) (W1 : World), (Grown W W1 ∧ W1.cell? ⟨g, 0, none⟩ = some (.slice ar nr cr) ∧ W1.cell? ⟨h, 0, none⟩ = some (.string a.key) ∧ W1.cell? ⟨h, 1, none⟩ = some (.slice aa na ca) ∧ W1.cell? ⟨h + 1, 0, none⟩ = some (.string b.key) ∧ W1.cell? ⟨h + 1, 1, none⟩ = some (.slice ab nb cb)) → Calls Tryz.prog 60 #[.slice ar nr cr, .string key] W1 fun e w' => e = .returned (.int .i64 (placeI (L.map RAt.plain) key)) ∧ (Grown W w' ∧ w'.cell? ⟨g, 0, none⟩ = some (.slice ar nr cr) ∧ w'.cell? ⟨h, 0, none⟩ = some (.string a.key) ∧ w'.cell? ⟨h, 1, none⟩ = some (.slice aa na ca) ∧ w'.cell? ⟨h + 1, 0, none⟩ = some (.string b.key) ∧ w'.cell? ⟨h + 1, 1, none⟩ = some (.slice ab nb cb)) :=
    fun key W1 hS => (keyPlace_any key (hr1.below hS.1.1) (by omega)).mono fun e w' ⟨he, hG⟩ => ⟨he, ord_keep hS hG⟩
  have HC : ∀ (W1 : World), (Grown W W1 ∧ W1.cell? ⟨g, 0, none⟩ = some (.slice ar nr cr) ∧ W1.cell? ⟨h, 0, none⟩ = some (.string a.key) ∧ W1.cell? ⟨h, 1, none⟩ = some (.slice aa na ca) ∧ W1.cell? ⟨h + 1, 0, none⟩ = some (.string b.key) ∧ W1.cell? ⟨h + 1, 1, none⟩ = some (.slice ab nb cb)) → Calls Tryz.prog 61 #[.slice aa na ca, .slice ab nb cb] W1 fun e w' => e = .returned (.int .i64 (cmpL a.ws b.ws)) ∧ w' = W1 :=
    fun W1 hS => slicesCompare_any (hna.symm ▸ ha1.below hS.1.1) (hnb.symm ▸ hb1.below hS.1.1) la lb
  have HS : Grown W W ∧ W.cell? ⟨g, 0, none⟩ = some (.slice ar nr cr) ∧ W.cell? ⟨h, 0, none⟩ = some (.string a.key) ∧ W.cell? ⟨h, 1, none⟩ = some (.slice aa na ca) ∧ W.cell? ⟨h + 1, 0, none⟩ = some (.string b.key) ∧ W.cell? ⟨h + 1, 1, none⟩ = some (.slice ab nb cb) := ⟨Grown.refl _, hg1, c0, c1, d0, d1⟩
  clear hr1 ha1 hb1 hna hnb hnr la lb hl hg1 c0 c1 d0 d1
  go_region_held3 (fun W' => Grown W W' ∧ W'.cell? ⟨g, 0, none⟩ = some (.slice ar nr cr) ∧ W'.cell? ⟨h, 0, none⟩ = some (.string a.key) ∧ W'.cell? ⟨h, 1, none⟩ = some (.slice aa na ca) ∧ W'.cell? ⟨h + 1, 0, none⟩ = some (.string b.key) ∧ W'.cell? ⟨h + 1, 1, none⟩ = some (.slice ab nb cb))
    (first | assumption | exact ord_keep (by assumption) (Grown.drew1 _) | exact ord_keep (by assumption) ((Grown.refl _).alloc _) | exact ord_keep (by assumption) (((Grown.refl _).alloc _).drewN 1))
    (first | (go_at_call 60; refine (HK _ _ (by assumption)).mono ?_; rintro e wx ⟨rfl, hS1⟩) | (go_at_call 59; refine (HI _ _ _).mono ?_; rintro e wx ⟨rfl, rfl⟩) | (go_at_call 61; refine (HC _ (by assumption)).mono ?_; rintro e wx ⟨rfl, rfl⟩) | (go_at_call 58; refine (HO _ _ _).mono ?_; rintro e wx ⟨rfl, rfl⟩) | (go_at_call 58; refine (HP _ _ _).mono ?_; rintro e wx ⟨rfl, rfl⟩))
  all_goals
    rename_i hQ
    have hG := G.trans hQ.1
    clear hQ
    go_wp2
    go_ret
    exact ⟨rfl, hG⟩
end Go.Proofs.YtlaejmehgaeobabGreatDoor
