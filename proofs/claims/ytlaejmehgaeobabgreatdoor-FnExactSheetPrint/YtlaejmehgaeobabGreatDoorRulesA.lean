import Derived.Test.YtlaejmehgaeobabGreatDoorMem
import Derived.Laws.Rows
import Derived.Deep.RegionLaw
namespace Go.Proofs.YtlaejmehgaeobabGreatDoor
open Go.RowKit
/-- A text cut at its blanks, cur being what has been read since the last one. -/
def spl : List UInt8 → List UInt8 → List (List UInt8)
  | cur, [] => [cur]
  | cur, c :: r => if c.toNat = 32 then cur :: spl [] r else spl (cur ++ [c]) r
theorem info3 : (Tryz.prog.info? 3).map (fun i => (i.zero, i.size, i.bytes)) = some (some (.int .i64 0), 1, 8) := by kernel_rfl
/-- What l2One leaves. -/
def OneAt (key : ByteArray) (ns : List Int) (many : Bool) (ds : List (List UInt8)) (w : World) (e : Ending) (w' : World) : Prop :=
  ∃ ao ca bo cb, e = .returned (.agg #[.string key, .slice ao ns.length ca, .bool many, .slice bo ds.length cb]) ∧
    Mem w.heap.size w' [⟨.slice ao ns.length ca, 3, 1, ns.length, intsV ns⟩, ⟨.slice bo ds.length cb, 9, 1, ds.length, strs ds⟩] ∧ Below w.heap.size w w'
theorem own_slice {w : World} {base : Nat} {e : TypeId} {size : Nat} {v : Value} {n : Nat} {xs : List Value} (h : w.ownsRow base e size v n xs) : ∃ ao cap, v = .slice ao n cap := by
  rcases h.2 with ⟨rfl, rfl⟩ | ⟨g, cap, cur, rfl, _⟩
  · exact ⟨none, 0, rfl⟩
  · exact ⟨_, _, rfl⟩
theorem one_done {w w1 : World} {T : TypeId} {cs : Array Value} {key : ByteArray} {ns : List Int} {many : Bool} {ds : List (List UInt8)} {ao bo : Option Addr} {ca cb : Nat} (ha : w1.ownsRow (w.heap.size + 1) 3 1 (.slice ao ns.length ca) ns.length (intsV ns)) (hb : w1.ownsRow (w.heap.size + 1) 9 1 (.slice bo ds.length cb) ds.length (strs ds))
    (hne : (Value.slice ao ns.length ca).ownBlock = none ∨ (Value.slice ao ns.length ca).ownBlock ≠ (Value.slice bo ds.length cb).ownBlock) (hB : Below (w.heap.size + 1) (w.alloc (.cells cs T)) w1) (x0 x1 x2 x3 : Value) :
    OneAt key ns many ds w (.returned (.agg #[.string key, .slice ao ns.length ca, .bool many, .slice bo ds.length cb])) ((((w1.setCell ⟨w.heap.size, 0, none⟩ x0).setCell ⟨w.heap.size, 1, none⟩ x1).setCell ⟨w.heap.size, 2, none⟩ x2).setCell ⟨w.heap.size, 3, none⟩ x3) := by
  have four : ∀ {e : TypeId} {v : Value} {n : Nat} {xs : List Value}, w1.ownsRow (w.heap.size + 1) e 1 v n xs → ((((w1.setCell ⟨w.heap.size, 0, none⟩ x0).setCell ⟨w.heap.size, 1, none⟩ x1).setCell ⟨w.heap.size, 2, none⟩ x2).setCell ⟨w.heap.size, 3, none⟩ x3).ownsRow w.heap.size e 1 v n xs := fun h =>
    own_mono (own_setCell (own_setCell (own_setCell (own_setCell h ⟨w.heap.size, 0, none⟩ (Nat.lt_succ_self _) x0) ⟨w.heap.size, 1, none⟩ (Nat.lt_succ_self _) x1) ⟨w.heap.size, 2, none⟩ (Nat.lt_succ_self _) x2) ⟨w.heap.size, 3, none⟩ (Nat.lt_succ_self _) x3) (Nat.le_succ _)
  refine ⟨ao, ca, bo, cb, rfl, ⟨fun r hr => ?_, by simpa using hne⟩, ?_⟩
  · rcases List.mem_cons.1 hr with rfl | hr
    · exact four ha
    · rw [List.mem_singleton.1 hr]; exact four hb
  · exact ((((((Below.refl _ w).alloc (Nat.le_refl _) _).trans (hB.mono (Nat.le_succ _))).setCell (by simp) _).setCell (by simp) _).setCell (by simp) _).setCell (by simp) _
set_option maxHeartbeats 2000000 in
set_option maxRecDepth 100000 in
theorem l2Many_any (key : ByteArray) (ns : List Int) (h m : Nat) (w : World) (hm : ns.length = m) (h0 : 0 < m) (hm2 : m ≤ 100) (hcell : ∀ j u, (intsV ns)[j]? = some u → w.cell? ((⟨h, 0, none⟩ : Addr).add j) = some u) :
    Calls Tryz.prog 85 #[.string key, .slice (some ⟨h, 0, none⟩) m m] w fun e w' => OneAt key ns true [] w e w' := by
  obtain ⟨i0, hi, hz0, hz1, hz2⟩ := info_parts info3
  go_enter Tryz.func85, Tryz.ntmps85
  have W1 : Below w.heap.size w ((w.alloc (.cells #[.string ⟨#[]⟩, .slice none 0 0, .bool false, .slice none 0 0] 94)).alloc (.cells #[] 3)) := ((Below.refl _ w).alloc (Nat.le_refl _) _).alloc (by simp) _
  have hnew : ∀ j u, (intsV ns)[j]? = some u → ((w.alloc (.cells #[.string ⟨#[]⟩, .slice none 0 0, .bool false, .slice none 0 0] 94)).alloc (.cells #[] 3)).cell? ((⟨h, 0, none⟩ : Addr).add j) = some u := fun j u hu => by
    have hc := hcell j u hu
    rw [W1.cell (World.block_lt_of_cell? w _ hc)]; exact hc
  have hown0 := World.ownsRow_lit (base := w.heap.size + 1) (e := 3) (size := 1) (w.alloc (.cells #[.string ⟨#[]⟩, .slice none 0 0, .bool false, .slice none 0 0] 94)) #[] 0 (by simp) (by decide) rfl
  simp only [World.size_alloc] at hown0
  go_wp2_with (at_builtin; refine wpList_append_lies _ rfl _ _ 92 rfl (w.heap.size + 1) 3 i0 (.int .i64 0) 1 8 Tryz.underlying92 hi hz0 hz1 hz2 rfl (by decide) _ 0 [] rfl hown0 ⟨h, 0, none⟩ m m (intsV ns) rfl (by rw [intsV_length]; omega) hnew ?c2 h0 ?c3 ?c4 ?c5 (w.heap.size + 1 + 1) (by simp) ?_)
  case c2 => intro u hu; simp only [intsV, List.mem_map] at hu; obtain ⟨z, _, rfl⟩ := hu; rfl
  case c3 => unfold maxLen; omega
  case c4 => omega
  case c5 => simp
  intro g cap w1 hown1 hgrow hat hlt1
  have hB1 : Below (w.heap.size + 1) (w.alloc (.cells #[.string ⟨#[]⟩, .slice none 0 0, .bool false, .slice none 0 0] 94)) w1 := ((Below.refl _ (w.alloc (.cells #[.string ⟨#[]⟩, .slice none 0 0, .bool false, .slice none 0 0] 94))).alloc (by simp) _).grown hgrow (by simp) (fun k hk => (hown0.lt k hk).1)
  have hz := hB1.size
  simp only [World.size_alloc] at hz
  have r0 : w1.cell? ⟨w.heap.size, 0, none⟩ = some (.string ⟨#[]⟩) := by rw [hB1.cell (by simp)]; simp
  have r1 : w1.cell? ⟨w.heap.size, 1, none⟩ = some (.slice none 0 0) := by rw [hB1.cell (by simp)]; simp
  have r2 : w1.cell? ⟨w.heap.size, 2, none⟩ = some (.bool false) := by rw [hB1.cell (by simp)]; simp
  have r3 : w1.cell? ⟨w.heap.size, 3, none⟩ = some (.slice none 0 0) := by rw [hB1.cell (by simp)]; simp
  have f0 : w1.frozen? ⟨w.heap.size, 0, none⟩ = false := by rw [hB1.frozen (by simp)]; simp
  have f1 : w1.frozen? ⟨w.heap.size, 1, none⟩ = false := by rw [hB1.frozen (by simp)]; simp
  have f2 : w1.frozen? ⟨w.heap.size, 2, none⟩ = false := by rw [hB1.frozen (by simp)]; simp
  have f3 : w1.frozen? ⟨w.heap.size, 3, none⟩ = false := by rw [hB1.frozen (by simp)]; simp
  clear W1 hnew hcell hgrow hat hown0
  go_wp2
  refine bodyPost_ret (v := .agg #[.string key, .slice (some ⟨g, 0, none⟩) m cap, .bool true, .slice none 0 0]) (by simp [results, Tryz.results85, go_sem, r0, r1, r2, r3]) rfl ?_
  subst hm
  exact one_done hown1 (World.ownsRow_nil _ _ _ _) (Or.inr (by simp [Value.ownBlock])) hB1 _ _ _ _
theorem keep2 {w : World} {p : Addr} {v : Value} (o : Obj) (hc : w.cell? p = some v) (hf : w.frozen? p = false) : (w.alloc o).drew.cell? p = some v ∧ (w.alloc o).drew.frozen? p = false := by
  have hb := World.block_lt_of_cell? w p hc
  have h := (((Below.refl w.heap.size w).alloc (Nat.le_refl _) o).drew)
  exact ⟨(h.cell hb).trans hc, (h.frozen hb).trans hf⟩
theorem keep3 {w w' : World} {p : Addr} {v : Value} {row : Option Nat} (h : w.cell? p = some v ∧ w.frozen? p = false) (hg : w.grownBy w' row) (hne : some p.block ≠ row) : w'.cell? p = some v ∧ w'.frozen? p = false := by
  have hb := World.block_lt_of_cell? w p h.1
  exact ⟨(hg.cell_far p hb hne).trans h.1, (hg.frozen_far p hb hne).trans h.2⟩
/-- Where r's Default has got to. -/
theorem spl_step_no (cur : List UInt8) (c : UInt8) (r : List UInt8) (h : c.toNat ≠ 32) : spl cur (c :: r) = spl (cur ++ [c]) r := by rw [spl, if_neg h]
theorem spl_step_yes (cur : List UInt8) (c : UInt8) (r : List UInt8) (h : c.toNat = 32) : spl cur (c :: r) = cur :: spl [] r := by rw [spl, if_pos h]
theorem mid_take (s : ByteArray) (k j : Nat) : s.extract k j = ⟨((s.data.toList.drop k).take (j - k)).toArray⟩ := by
  apply ByteArray.ext; apply Array.toList_inj.1; rw [Lib.extract_data]
theorem mid_snoc (s : ByteArray) (k j : Nat) (hk : k ≤ j) (h : j < s.size) : (s.data.toList.drop k).take (j + 1 - k) = (s.data.toList.drop k).take (j - k) ++ [s[j]] := by
  rw [show j + 1 - k = (j - k) + 1 from by omega, List.take_succ_eq_append_getElem (by simp; omega)]
  congr 2
  simp only [List.getElem_drop]
  have : k + (j - k) = j := by omega
  simp only [this]; rfl
theorem one_step {B : Nat} {w1 wr w3 : World} {o : Obj} {row : Option Nat} {a b c d : Value} {T : TypeId} (hb2 : wr.heap[B]? = some (.cells #[a, b, c, d] T (0, 0))) (hgr : (wr.alloc o).drew.grownBy w3 row) (hrow : ∀ k, row = some k → B + 1 ≤ k) (hbw : Below B w1 wr)
    {v : Value} {n : Nat} {xs : List Value} (hown3 : w3.ownsRow (B + 1) 9 1 v n xs) (u : Value) :
    (w3.setCell ⟨B, 3, none⟩ u).heap[B]? = some (.cells #[a, b, c, u] T (0, 0)) ∧ (w3.setCell ⟨B, 3, none⟩ u).ownsRow (B + 1) 9 1 v n xs ∧ Below B w1 (w3.setCell ⟨B, 3, none⟩ u) := by
  have hB : B < wr.heap.size := (Array.getElem?_eq_some_iff.1 hb2).1
  have h3 : w3.heap[B]? = some (.cells #[a, b, c, d] T (0, 0)) := by
    rw [hgr.block B (by simp; omega) (fun e => by have := hrow B e.symm; omega)]
    have := (((Below.refl wr.heap.size wr).alloc (Nat.le_refl _) o).drew).block B hB
    rw [this]; exact hb2
  refine ⟨?_, own_setCell hown3 _ (by simp) _, ?_⟩
  · exact heap_setCell_same w3 B 3 #[a, b, c, d] T u h3
  · exact ((((hbw.alloc (by omega) o).drew).grown hgr (by simp; omega) (fun k hk => by have := hrow k hk; omega))).setCell (by simp) _
set_option maxHeartbeats 4000000 in
set_option maxRecDepth 100000 in
theorem l2One_any (key value : ByteArray) (ns : List Int) (h m : Nat) (w : World) (hm : ns.length = m) (h0 : 0 < m) (hm2 : m ≤ 100) (hv : value.size ≤ 100) (hcell : ∀ j u, (intsV ns)[j]? = some u → w.cell? ((⟨h, 0, none⟩ : Addr).add j) = some u) :
    Calls Tryz.prog 84 #[.string key, .string value, .slice (some ⟨h, 0, none⟩) m m] w fun e w' => OneAt key ns false (spl [] value.data.toList) w e w' := by
  obtain ⟨i0, hi, hz0, hz1, hz2⟩ := info_parts info3
  obtain ⟨j0, hj, hy0, hy1, hy2⟩ := info_parts info9
  have W1 : Below w.heap.size w ((w.alloc (.cells #[.string ⟨#[]⟩, .slice none 0 0, .bool false, .slice none 0 0] 94)).alloc (.cells #[] 3)) := ((Below.refl _ w).alloc (Nat.le_refl _) _).alloc (by simp) _
  have hnew : ∀ j u, (intsV ns)[j]? = some u → ((w.alloc (.cells #[.string ⟨#[]⟩, .slice none 0 0, .bool false, .slice none 0 0] 94)).alloc (.cells #[] 3)).cell? ((⟨h, 0, none⟩ : Addr).add j) = some u := fun j u hu => by
    have hc := hcell j u hu
    rw [W1.cell (World.block_lt_of_cell? w _ hc)]; exact hc
  have hown0 := World.ownsRow_lit (base := w.heap.size + 1) (e := 3) (size := 1) (w.alloc (.cells #[.string ⟨#[]⟩, .slice none 0 0, .bool false, .slice none 0 0] 94)) #[] 0 (by simp) (by decide) rfl
  simp only [World.size_alloc] at hown0
  obtain ⟨T, hT⟩ : ∃ T, spl [] value.data.toList = T := ⟨_, rfl⟩
  have HT : Hid (spl [] value.data.toList = T) := hT
  rw [hT]
  clear hT
  go_enter Tryz.func84, Tryz.ntmps84
  go_wp2_with (at_builtin; refine wpList_append_lies _ rfl _ _ 92 rfl (w.heap.size + 1) 3 i0 (.int .i64 0) 1 8 Tryz.underlying92 hi hz0 hz1 hz2 rfl (by decide) _ 0 [] rfl hown0 ⟨h, 0, none⟩ m m (intsV ns) rfl (by rw [intsV_length]; omega) hnew ?c2 h0 ?c3 ?c4 ?c5 (w.heap.size + 1 + 1) (by simp) ?_)
  case c2 => intro u hu; simp only [intsV, List.mem_map] at hu; obtain ⟨z, _, rfl⟩ := hu; rfl
  case c3 => unfold maxLen; omega
  case c4 => omega
  case c5 => simp
  intro g cap w1 hown1 hgrow hat hlt1
  have hB1 : Below (w.heap.size + 1) (w.alloc (.cells #[.string ⟨#[]⟩, .slice none 0 0, .bool false, .slice none 0 0] 94)) w1 := ((Below.refl _ (w.alloc (.cells #[.string ⟨#[]⟩, .slice none 0 0, .bool false, .slice none 0 0] 94))).alloc (by simp) _).grown hgrow (by simp) (fun k hk => (hown0.lt k hk).1)
  have hz := hB1.size
  simp only [World.size_alloc] at hz
  clear W1 hnew hcell hgrow hat hown0
  go_wp2
  go_loopw [8, 9] (fun x i wr => ∃ (f k : Nat) (ws : List (List UInt8)) (bo : Option Addr) (cb : Nat), x = .int .i64 (f : Int) ∧ i = .int .i64 (k : Int) ∧ k ≤ value.size + 1 ∧ ws.length ≤ k ∧ f ≤ k ∧ wr.heap[w1.heap.size]? = some (.cells #[.string key, .slice (some ⟨g, 0, none⟩) m cap, .bool false, .slice bo ws.length cb] 94 (0, 0)) ∧ wr.ownsRow (w1.heap.size + 1) 9 1 (.slice bo ws.length cb) ws.length (strs ws) ∧ Below w1.heap.size w1 wr ∧ Hid (k ≤ value.size → ws ++ spl ((value.data.toList.drop f).take (k - f)) (value.data.toList.drop k) = T) ∧ Hid (k = value.size + 1 → ws = T)) (fun _ i _ => value.size + 1 - (intOf i).toNat)
  case atStart => exact ⟨0, 0, [], none, 0, rfl, rfl, by omega, by simp, by omega, heap_alloc_new w1 _, World.ownsRow_nil _ _ _ _, (Below.refl _ _).alloc (Nat.le_refl _) _, fun _ => by simpa using HT.out, fun h => by omega⟩
  case round =>
    obtain ⟨f, k, ws, bo, cb, rfl, rfl, hk, hwl, hfk, hb2, hown2, hbw, hI, hE⟩ := hrel
    have hzr : w1.heap.size < wr.heap.size := (Array.getElem?_eq_some_iff.1 hb2).1
    by_cases hks : k ≤ value.size
    · by_cases hlast : k = value.size
      · have hl' : ((k : Int) == (value.size : Int)) = true := by rw [beq_iff_eq]; omega
        have HE : Hid (ws ++ [(value.data.toList.drop f).take (k - f)] = T) := by
          have := hI.out hks
          rw [List.drop_of_length_le (l := value.data.toList) (i := k) (by simp; omega)] at this
          exact this
        have hk3 : value.size ≤ k := by omega
        clear hI hE hlast
        have c3 : wr.cell? ⟨w1.heap.size, 3, none⟩ = some (.slice bo ws.length cb) := by rw [Lib.cell_of_heap hb2]; rfl
        have f3 : wr.frozen? ⟨w1.heap.size, 3, none⟩ = false := Lib.frozen_of_heap hb2 3
        have q1 : (0 : Int) ≤ (f : Int) := by omega
        have q2 : (f : Int) ≤ (k : Int) := by omega
        have q3 : (k : Int) ≤ (value.size : Int) := by omega
        have hne2 : (some w1.heap.size : Option Nat) ≠ (Value.slice bo ws.length cb).ownBlock := fun h => by have := (hown2.lt _ h.symm).1; omega
        go_wp2
        go_region_law ((refine step_append_lies _ (by rfl) _ _ _ (by rfl) (w1.heap.size + 1) 9 j0 (.string ⟨#[]⟩) 1 16 Tryz.underlying40 hj hy0 hy1 hy2 rfl (by decide) (.slice bo ws.length cb) ws.length (strs ws) (by rfl) ((hown2.alloc _).drew) ⟨wr.heap.size, 0, none⟩ 1 1 [.string (value.extract f k)] (by rfl) (by rfl) (World.news_of_block (cs := #[.string (value.extract f k)]) (t := 9) (fr := (0, 0)) (heap_alloc_new wr _)) (by simp [Value.oneCell']) (by omega) (by unfold maxLen; omega) (by omega) (by simp; omega) (wr.heap.size + 1) (by simp) ?_; intro g3 cap3 w3 hown3 hgr2 hat3 hlt3; have hk3' := keep3 (keep2 _ c3 f3) hgr2 hne2; have hk4 := hk3'.1; have hk5 := hk3'.2))
        all_goals
          go_wp2
          obtain ⟨s1, s2, s3⟩ := one_step hb2 hgr2 (fun j hj => (hown2.lt j hj).1) hbw hown3 (.slice (some ⟨g3, 0, none⟩) (ws.length + 1) cap3)
          go_roundw
          case rel => exact ⟨k + 1, k + 1, ws ++ [(value.data.toList.drop f).take (k - f)], some ⟨g3, 0, none⟩, cap3, by go_num, by go_num, by omega, by simp; omega, by omega, by simpa using s1, by simpa [strs, mid_take] using s2, s3, fun h => by omega, fun _ => HE.out⟩
          case measure => simp [intOf]; omega
      · have hlt : k < value.size := by omega
        by_cases h32 : value[k].toNat = 32
        · have h32' : ((value[k].toNat : Int) == 32) = true := by rw [beq_iff_eq]; omega
          have hl' : ((k : Int) == (value.size : Int)) = false := by rw [beq_eq_false_iff_ne]; omega
          have HE : Hid (k + 1 ≤ value.size → (ws ++ [(value.data.toList.drop f).take (k - f)]) ++ spl ((value.data.toList.drop (k + 1)).take (k + 1 - (k + 1))) (value.data.toList.drop (k + 1)) = T) := fun _ => by
            have := hI.out hks
            rw [drop_cons value k hlt, spl_step_yes _ _ _ h32] at this
            simpa using this
          clear hI hE h32
          have c3 : wr.cell? ⟨w1.heap.size, 3, none⟩ = some (.slice bo ws.length cb) := by rw [Lib.cell_of_heap hb2]; rfl
          have f3 : wr.frozen? ⟨w1.heap.size, 3, none⟩ = false := Lib.frozen_of_heap hb2 3
          have q1 : (0 : Int) ≤ (f : Int) := by omega
          have q2 : (f : Int) ≤ (k : Int) := by omega
          have q3 : (k : Int) ≤ (value.size : Int) := by omega
          have hne2 : (some w1.heap.size : Option Nat) ≠ (Value.slice bo ws.length cb).ownBlock := fun h => by have := (hown2.lt _ h.symm).1; omega
          go_wp2
          go_region_law ((refine step_append_lies _ (by rfl) _ _ _ (by rfl) (w1.heap.size + 1) 9 j0 (.string ⟨#[]⟩) 1 16 Tryz.underlying40 hj hy0 hy1 hy2 rfl (by decide) (.slice bo ws.length cb) ws.length (strs ws) (by rfl) ((hown2.alloc _).drew) ⟨wr.heap.size, 0, none⟩ 1 1 [.string (value.extract f k)] (by rfl) (by rfl) (World.news_of_block (cs := #[.string (value.extract f k)]) (t := 9) (fr := (0, 0)) (heap_alloc_new wr _)) (by simp [Value.oneCell']) (by omega) (by unfold maxLen; omega) (by omega) (by simp; omega) (wr.heap.size + 1) (by simp) ?_; intro g3 cap3 w3 hown3 hgr2 hat3 hlt3; have hk3' := keep3 (keep2 _ c3 f3) hgr2 hne2; have hk4 := hk3'.1; have hk5 := hk3'.2))
          all_goals
            go_wp2
            obtain ⟨s1, s2, s3⟩ := one_step hb2 hgr2 (fun j hj => (hown2.lt j hj).1) hbw hown3 (.slice (some ⟨g3, 0, none⟩) (ws.length + 1) cap3)
            go_roundw
            case rel => exact ⟨k + 1, k + 1, ws ++ [(value.data.toList.drop f).take (k - f)], some ⟨g3, 0, none⟩, cap3, by go_num, by go_num, by omega, by simp; omega, by omega, by simpa using s1, by simpa [strs, mid_take] using s2, s3, HE, fun h => by omega⟩
            case measure => simp [intOf]; omega
        · have h32' : ((value[k].toNat : Int) == 32) = false := by rw [beq_eq_false_iff_ne]; omega
          have hl' : ((k : Int) == (value.size : Int)) = false := by rw [beq_eq_false_iff_ne]; omega
          have HI : Hid (k + 1 ≤ value.size → ws ++ spl ((value.data.toList.drop f).take (k + 1 - f)) (value.data.toList.drop (k + 1)) = T) := fun _ => by
            have := hI.out hks
            rw [drop_cons value k hlt, spl_step_no _ _ _ h32] at this
            rw [mid_snoc value f k hfk hlt]; exact this
          clear hI hE h32
          go_wp2
          go_roundw
          case rel => exact ⟨f, k + 1, ws, bo, cb, rfl, by go_num, by omega, by omega, by omega, hb2, hown2, hbw, HI, fun h => by omega⟩
          case measure => simp [intOf]; omega
    · have hR := hE.out (by omega)
      subst hR
      have c0 : wr.cell? ⟨w1.heap.size, 0, none⟩ = some (.string key) := by rw [Lib.cell_of_heap hb2]; rfl
      have c1 : wr.cell? ⟨w1.heap.size, 1, none⟩ = some (.slice (some ⟨g, 0, none⟩) m cap) := by rw [Lib.cell_of_heap hb2]; rfl
      have c2 : wr.cell? ⟨w1.heap.size, 2, none⟩ = some (.bool false) := by rw [Lib.cell_of_heap hb2]; rfl
      have c3 : wr.cell? ⟨w1.heap.size, 3, none⟩ = some (.slice bo ws.length cb) := by rw [Lib.cell_of_heap hb2]; rfl
      have hBr := hB1.trans (hbw.mono hz)
      have r0 : wr.cell? ⟨w.heap.size, 0, none⟩ = some (.string ⟨#[]⟩) := by rw [hBr.cell (by simp)]; simp
      have r1 : wr.cell? ⟨w.heap.size, 1, none⟩ = some (.slice none 0 0) := by rw [hBr.cell (by simp)]; simp
      have r2 : wr.cell? ⟨w.heap.size, 2, none⟩ = some (.bool false) := by rw [hBr.cell (by simp)]; simp
      have r3 : wr.cell? ⟨w.heap.size, 3, none⟩ = some (.slice none 0 0) := by rw [hBr.cell (by simp)]; simp
      have f0 : wr.frozen? ⟨w.heap.size, 0, none⟩ = false := by rw [hBr.frozen (by simp)]; simp
      have f1 : wr.frozen? ⟨w.heap.size, 1, none⟩ = false := by rw [hBr.frozen (by simp)]; simp
      have f2 : wr.frozen? ⟨w.heap.size, 2, none⟩ = false := by rw [hBr.frozen (by simp)]; simp
      have f3 : wr.frozen? ⟨w.heap.size, 3, none⟩ = false := by rw [hBr.frozen (by simp)]; simp
      have hown1' := own_below hown1 hbw
      have hapart : (Value.slice (some ⟨g, 0, none⟩) ns.length cap).ownBlock ≠ (Value.slice bo ws.length cb).ownBlock := fun h => by
        have h1 := (hown2.lt g (by rw [← h]; rfl)).1
        omega
      clear hI hE
      go_wp2
      subst hm
      exact bodyPost_ret (v := .agg #[.string key, .slice (some ⟨g, 0, none⟩) ns.length cap, .bool false, .slice bo ws.length cb]) (by simp [results, Tryz.results84, go_sem, r0, r1, r2, r3]) rfl (one_done hown1' (own_mono hown2 (by omega)) (Or.inr hapart) hBr _ _ _ _)
end Go.Proofs.YtlaejmehgaeobabGreatDoor
