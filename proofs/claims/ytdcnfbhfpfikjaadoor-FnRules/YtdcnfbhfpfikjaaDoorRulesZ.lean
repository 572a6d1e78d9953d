import Derived.Test.YtdcnfbhfpfikjaaDoorRulesY
import Derived.Deep.CutRange
namespace Go.Proofs.YtdcnfbhfpfikjaaDoor
open Go.RowKit
/-- What is drawn, a tape further on. -/
theorem FitsDrawn.drewN {w w' : World} {e : Ending} (h : FitsDrawn w e w') (n : Nat) : FitsDrawn w e (w'.drewN n) := by
  obtain ⟨kind, key, xo, xc, ws, he, ho, h4, hs, hb⟩ := h
  exact ⟨kind, key, xo, xc, ws, he, own_drewN ho n, h4, hs, below_drewN hb n⟩
theorem tab2 (z : Nat) (hz : z < 2) : ∃ u : ByteArray, ([Value.string ⟨#[110, 111, 110, 101]⟩, Value.string ⟨#[]⟩] : List Value)[z]'hz = .string u :=
  match z, hz with
  | 0, _ => ⟨_, rfl⟩
  | 1, _ => ⟨_, rfl⟩
theorem LX.below {k q xc : Nat} {w W W' : World} {key : ByteArray} {xo : Option Addr} {ws : List (List UInt8)} (h : LX k w q key xo xc ws W) (hb : Below W.heap.size W W') : LX k w q key xo xc ws W' :=
  ⟨h.rd.below hb, Kept.heap (S := []) (Kept.of_below hb) h.b7 (by simp), own_below h.own hb, h.ne, h.kept.trans (hb.mono h.kept.size), h.pq, h.few, h.small⟩
theorem LX.alloc {k q xc : Nat} {w W : World} {key : ByteArray} {xo : Option Addr} {ws : List (List UInt8)} (h : LX k w q key xo xc ws W) (o : Obj) : LX k w q key xo xc ws (W.alloc o) := h.below ((Below.refl _ _).alloc (Nat.le_refl _) _)
set_option maxHeartbeats 4000000 in
set_option maxRecDepth 100000 in
theorem drawFits_any (a : Option Addr) (len cap : Nat) (w : World) (hc : Code w.heap.size w a len cap) :
    Calls Tryd.prog 17 #[.slice a len cap] w fun e w' => FitsDrawn w e w' := by
  have HO := l1Open_any w.heap.size a len cap w (Nat.le_refl _) hc.1 hc.2.1 hc.2.2.1 hc.2.2.2
  clear hc
  go_enter Tryd.func17, Tryd.ntmps17
  go_wp2_with (go_at_call 22; refine HO.mono ?_)
  rintro e w1 ⟨rfl, h1, b1⟩
  have z1 := h1.lt
  clear HO
  go_wp2_with (go_at_call 23; refine (pick_any _ _ 0 3 _ (h1.below ((Below.refl _ _).alloc (Nat.le_refl _) _)) (by omega) (by omega) (by omega)).mono ?_)
  rintro e w2 ⟨y, hy, rfl, h2, g2⟩
  obtain ⟨kind, hkind, hck⟩ := tab_mem w1 w2 [⟨#[116, 101, 97, 109]⟩, ⟨#[98, 101, 114, 116, 104]⟩, ⟨#[115, 101, 114, 118, 105, 99, 101]⟩] y _ hy g2 (by omega)
  have b2 := below_of_grown (b1.alloc (by omega) _) (by simp; omega) (Nat.le_refl _) g2
  have z2 := h2.lt
  have HL := l2Line_any w.heap.size w.heap.size (0 + 1) kind w2 h2 (by omega) (kinds_some kind hkind)
  clear g2 b1 h1 hkind
  go_wp2_with (go_at_call 42; refine HL.mono ?_)
  rintro e w3 ⟨key, xo, xc, k3, ws, rfl, o3, hw3, hws, hk3, h3, g3⟩
  clear HL h2
  have b3 := below_of_grown b2 (by omega) (Nat.le_refl _) g3
  have z3 := h3.lt
  have HX : LX k3 w w3.heap.size key xo xc ws (w3.alloc (.cells #[.string key, .slice xo ws.length xc] 73)) :=
    ⟨h3.below ((Below.refl _ _).alloc (Nat.le_refl _) _), alloc_here _ _, own_mono (o3.alloc _) (by omega), fun g hg => by have := (o3.lt g hg).2; omega, b3.alloc (by omega) _, z3, by omega, fun x hx => Nat.le_trans (hws x hx) (by omega)⟩
  clear o3 hws h3 b3 b2 hck g3
  generalize hq0 : w3.heap.size = q at *
  go_upto_region 4 with fail
  go_cut [26] from 18 to 25 (fun c wx => ∃ b : Bool, c = .bool b ∧ (b = true → 0 < ws.length) ∧ LX (k3 + 1) w q key xo xc ws wx)
  case first =>
    go_wp2_with (go_at_call 23; refine (pick_any _ _ k3 2 _ HX.rd (by omega) (by omega) (by omega)).mono ?_)
    rintro e w5 ⟨y2, hy2, rfl, h5, g5⟩
    have HX5 := HX.picked g5 h5
    clear HX g5 h5
    have c7 : w5.cell? ⟨q, 1, none⟩ = some (.slice xo ws.length xc) := by rw [Lib.cell_of_heap HX5.b7]; rfl
    have hy3 : y2 = 0 ∨ y2 = 1 := by omega
    have HH := hid_in HX5
    clear HX5
    rcases hy3 with rfl | rfl
    · go_wp2_with fail
      go_meet
      exact ⟨decide (0 < ws.length), rfl, fun h => by simpa using h, HH.out⟩
    · go_wp2_with fail
      go_meet
      exact ⟨false, rfl, (fun h => by cases h), HH.out⟩
  case rest =>
  obtain ⟨b, rfl, hb, HX5⟩ := hcut
  clear z1 z2 z3 hy hq0 HX
  go_upto_if 26 with fail
  go_cut [] from 27 to 36 (fun wx => ∃ k6 xo6 xc6 ws6, k6 ≤ 20 ∧ List.length ws6 ≤ 3 ∧ LX k6 w q key xo6 xc6 ws6 wx)
  case first =>
    cases b
    · have HH := hid_in HX5
      clear HX5
      go_wp2_with fail
      go_meet
      exact ⟨k3 + 1, xo, xc, ws, by omega, hw3, HH.out⟩
    · have hw0 := hb rfl
      obtain ⟨_, _, ex, f1⟩ := own_form HX5.own
      cases ex
      rcases f1 with f1 | ⟨g, rfl⟩
      · omega
      have H5 := hid_in HX5
      have R5 := HX5.rd
      obtain ⟨n, hn⟩ : ∃ n, ws.length = n := ⟨_, rfl⟩
      have c7 : wc.cell? ⟨q, 1, none⟩ = some (.slice (some ⟨g, 0, none⟩) n xc) := by rw [Lib.cell_of_heap HX5.b7, ← hn]; rfl
      have HPn := fun W hW => pick_any w.heap.size w.heap.size (k3 + 1) n W hW (by omega) (by omega) (by omega)
      have HOd := fun W hW => l2Odd_any w.heap.size w.heap.size (k3 + 1 + 1) W hW (by omega)
      have HN := hid_in hn
      clear HX5 hb hn
      go_wp2_with fail
      go_region_with (first
        | (go_at_call 23; refine (HPn _ (rd_drewN R5 1)).mono ?_; rintro e w6 ⟨j, hj, rfl, h6, g6'⟩; have X6 := hid_in (H5.out.picked (undrew g6') h6); have c76 : w6.cell? ⟨q, 1, none⟩ = some (.slice (some ⟨g, 0, none⟩) n xc) := by (rw [Lib.cell_of_heap X6.out.b7, ← HN.out]; rfl))
        | (go_at_call 43; refine (HOd _ h6).mono ?_; rintro e w7 ⟨u, k7, hu, hk7, rfl, h7, g7⟩; have X7 := hid_in (X6.out.picked g7 h7); have c77 : w7.cell? ⟨q, 1, none⟩ = some (.slice (some ⟨g, 0, none⟩) n xc) := (by rw [Lib.cell_of_heap X7.out.b7, ← HN.out]; rfl); have cr := X7.out.own.cellAt j (by have := HN.out; omega); have fr := X7.out.own.frozenAt j; rw [strs_at ws j (by have := HN.out; omega)] at cr))
      all_goals
        clear HPn HOd R5 H5
        go_wp2_with fail
        go_meet
        exact ⟨k7, some ⟨g, 0, none⟩, xc, ws.set j u.data.toList, by omega, by simpa using hw3, X7.out.set j u hu⟩
  case rest =>
  obtain ⟨k6, xo6, xc6, ws6, hk6, hw6, H6⟩ := hcut
  clear HX5 hb hw3 hk3
  go_wp2_with (go_at_call 23; refine (pick_any _ _ k6 10 _ H6.rd (by omega) (by omega) (by omega)).mono ?_)
  rintro e w8 ⟨z, hz, rfl, h8, g8⟩
  have H8 := H6.picked g8 h8
  clear H6 g8 h8
  have c80 : w8.cell? ⟨q, 0, none⟩ = some (.string key) := by rw [Lib.cell_of_heap H8.b7]; rfl
  have c81 : w8.cell? ⟨q, 1, none⟩ = some (.slice xo6 ws6.length xc6) := by rw [Lib.cell_of_heap H8.b7]; rfl
  have f80 : w8.frozen? ⟨q, 0, none⟩ = false := Lib.frozen_of_heap H8.b7 0
  have f81 : w8.frozen? ⟨q, 1, none⟩ = false := Lib.frozen_of_heap H8.b7 1
  have hqb := H8.big
  have hpq := H8.pq
  have hz4 : z = 0 ∨ z = 1 ∨ z = 2 ∨ 3 ≤ z := by omega
  rcases hz4 with rfl | rfl | rfl | hz4
  · obtain ⟨i0, hi, hy0, hy1, hy2⟩ := info_parts info9
    have HH := hid_in H8
    have hown := H8.own
    have hneq := H8.ne
    clear H8
    go_wp2_with (at_builtin; refine wpList_append_lies _ rfl _ _ 24 rfl (w.heap.size + 1) 9 i0 (.string ⟨#[]⟩) 1 16 Tryd.underlying24 hi hy0 hy1 hy2 rfl (by decide) (.slice xo6 ws6.length xc6) ws6.length (strs ws6) rfl (hown.alloc _) ⟨w8.heap.size, 0, none⟩ 1 1 [.string ⟨#[49]⟩] rfl rfl (World.news_of_block (cs := #[.string ⟨#[49]⟩]) (t := 9) (fr := (0, 0)) (heap_alloc_new w8 _)) (by simp [Value.oneCell']) (by omega) ?c3 ?c4 ?c5 (w8.heap.size + 1) (by simp) ?_)
    case c3 => unfold maxLen; omega
    case c4 => omega
    case c5 => simp; omega
    intro g9 cap9 w9 hown9 hgr9 hat9 hlt9
    have H9 : Hid (FitsDrawn w (.returned (.tuple #[.string kind, .string key, .slice (some ⟨g9, 0, none⟩) (ws6.length + 1) cap9])) (w9.setCell ⟨q, 1, none⟩ (.slice (some ⟨g9, 0, none⟩) (ws6.length + 1) cap9))) := by
      have := (HH.out.more hw6 (by decide) hgr9 hown9 hat9).out kind
      rw [List.length_append] at this
      exact this
    have hne0 : (some q : Option Nat) ≠ (Value.slice xo6 ws6.length xc6).ownBlock := fun e => hneq q e.symm rfl
    have k0 := keep3 (keep1 (.cells #[.string ⟨#[49]⟩] 9) ⟨c80, f80⟩) hgr9 hne0
    have k1 := keep3 (keep1 (.cells #[.string ⟨#[49]⟩] 9) ⟨c81, f81⟩) hgr9 hne0
    have c90 := k0.1
    have c91 := k1.1
    have f91 := k1.2
    clear HH hown hneq hown9 hgr9 hat9 k0 k1
    go_wp2
    go_quiet (fail)
    go_wp2
    go_ret3
    exact H9.out.drewN _
  · have HH := hid_in H8
    have R8 := H8.rd
    have R8a := (H8.alloc (.cells #[.string ⟨#[110, 111, 110, 101]⟩, .string ⟨#[]⟩] 9)).rd
    have k0 := keep1 (.cells #[.string ⟨#[110, 111, 110, 101]⟩, .string ⟨#[]⟩] 9) ⟨c80, f80⟩
    have k1 := keep1 (.cells #[.string ⟨#[110, 111, 110, 101]⟩, .string ⟨#[]⟩] 9) ⟨c81, f81⟩
    have c80a := k0.1
    have c81a := k1.1
    have HPa := fun W hW => pick_any w.heap.size w.heap.size (k6 + 1) 2 W hW (by omega) (by omega) (by omega)
    clear H8 k0 k1
    go_wp2
    go_region_with (first
      | (go_at_call 23; refine (HPa _ (rd_drewN R8a 1)).mono ?_; rintro e w9 ⟨x, hx, rfl, h9, g9⟩; obtain ⟨u, hum, hcu⟩ := tab_mem w8 w9 [⟨#[110, 111, 110, 101]⟩, ⟨#[]⟩] x _ hx (undrew g9) (by omega); have X9 := hid_in (((HH.out.alloc (.cells #[.string ⟨#[110, 111, 110, 101]⟩, .string ⟨#[]⟩] 9)).picked (undrew g9) h9).out u); have c90 : w9.cell? ⟨q, 0, none⟩ = some (.string key) := (by rw [Lib.cell_of_heap ((HH.out.alloc (.cells #[.string ⟨#[110, 111, 110, 101]⟩, .string ⟨#[]⟩] 9)).picked (undrew g9) h9).b7]; rfl); have c91 : w9.cell? ⟨q, 1, none⟩ = some (.slice xo6 ws6.length xc6) := (by rw [Lib.cell_of_heap ((HH.out.alloc (.cells #[.string ⟨#[110, 111, 110, 101]⟩, .string ⟨#[]⟩] 9)).picked (undrew g9) h9).b7]; rfl))
      | (go_at_call 23; refine (HPa _ (rd_drewN R8 1)).mono ?_; rintro e w9 ⟨x, hx, rfl, h9, g9⟩; obtain ⟨u, hgz⟩ := tab2 x hx; have X9 := hid_in (((HH.out.picked (undrew g9) h9).alloc (.cells #[.string ⟨#[110, 111, 110, 101]⟩, .string ⟨#[]⟩] 9)).out u); have c90 : w9.cell? ⟨q, 0, none⟩ = some (.string key) := (by rw [Lib.cell_of_heap (HH.out.picked (undrew g9) h9).b7]; rfl); have c91 : w9.cell? ⟨q, 1, none⟩ = some (.slice xo6 ws6.length xc6) := (by rw [Lib.cell_of_heap (HH.out.picked (undrew g9) h9).b7]; rfl); have d90 := (keep1 (.cells #[.string ⟨#[110, 111, 110, 101]⟩, .string ⟨#[]⟩] 9) ⟨c90, Lib.frozen_of_heap (HH.out.picked (undrew g9) h9).b7 0⟩).1; have d91 := (keep1 (.cells #[.string ⟨#[110, 111, 110, 101]⟩, .string ⟨#[]⟩] 9) ⟨c91, Lib.frozen_of_heap (HH.out.picked (undrew g9) h9).b7 1⟩).1))
    all_goals
      clear HH HPa R8 R8a
      go_wp2
      go_ret3
      exact X9.out
  · have HP4 := pick_any w.heap.size w.heap.size (k6 + 1) 4 _ (H8.alloc (.cells #[.string ⟨#[110, 111, 110, 101]⟩, .string ⟨#[]⟩, .string ⟨#[122, 111, 110, 101]⟩, .string ⟨#[105, 109, 97, 103, 101]⟩] 9)).rd (by omega) (by omega) (by omega)
    have HH := hid_in H8
    clear H8
    go_wp2_with (go_at_call 23; refine HP4.mono ?_)
    rintro e w9 ⟨x, hx, rfl, h9, g9⟩
    obtain ⟨u, _, hcu⟩ := tab_mem w8 w9 [⟨#[110, 111, 110, 101]⟩, ⟨#[]⟩, ⟨#[122, 111, 110, 101]⟩, ⟨#[105, 109, 97, 103, 101]⟩] x _ hx g9 (by omega)
    have X9 := (HH.out.alloc (.cells #[.string ⟨#[110, 111, 110, 101]⟩, .string ⟨#[]⟩, .string ⟨#[122, 111, 110, 101]⟩, .string ⟨#[105, 109, 97, 103, 101]⟩] 9)).picked g9 h9
    have c90 : w9.cell? ⟨q, 0, none⟩ = some (.string key) := by rw [Lib.cell_of_heap X9.b7]; rfl
    have c91 : w9.cell? ⟨q, 1, none⟩ = some (.slice xo6 ws6.length xc6) := by rw [Lib.cell_of_heap X9.b7]; rfl
    have f90 : w9.frozen? ⟨q, 0, none⟩ = false := Lib.frozen_of_heap X9.b7 0
    have H10 := hid_in ((X9.key u).out kind)
    clear X9 HH HP4 g9 h9
    go_wp2
    go_quiet (fail)
    go_wp2
    go_ret3
    exact H10.out.drewN _
  · have e0 : ((z : Int) == 0) = false := by rw [beq_eq_false_iff_ne]; omega
    have e1 : ((z : Int) == 1) = false := by rw [beq_eq_false_iff_ne]; omega
    have e2 : ((z : Int) == 2) = false := by rw [beq_eq_false_iff_ne]; omega
    have H10 := hid_in (H8.out kind)
    clear H8
    go_wp2
    go_quiet (fail)
    go_wp2
    go_ret3
    exact H10.out.drewN _
end Go.Proofs.YtdcnfbhfpfikjaaDoor
