import Derived.Test.YtpdahhnjhggocaaGreatDoorBun41
import Derived.Test.YtpdahhnjhggocaaGreatDoorBun33
import Derived.RangeFuncNested
import Derived.RangeFuncBound
import Derived.RangeFuncCalls
import Derived.RangeFuncLeaves
import Derived.Shelf.Abstract
import Derived.WalkKit
import Derived.OwnWalkIn
import Derived.TacticsInMore
import Derived.LoopNIn
import Derived.LoopIn
import Derived.Sort.MapsRangeIn
import Derived.Maps.AppendAt
namespace Go.Proofs.YtpdahhnjhggocaaGreatDoor
open Go.RowKit Go.Shelf
attribute [local go_sem] Oper.semAt_some
def VRng (bs : List BAt) (r q : Nat) (pre : List BAt) (W : World) : Prop := W.heap[r]? = some (mObj bs) ∧ ∃ seen : List Nat, W.heap[q]? = some (.mapIter (some r) bs.length seen.toArray bs.length) ∧ seen.Nodup ∧ seen.map (fun i => bs[i]?) = pre.map some
def vLeft (m q : Nat) (W : World) : Nat := match W.heap[q]? with
  | some (.mapIter _ _ seen _) => m - seen.size
  | _ => 0
theorem seen_lt {bs pre : List BAt} {seen : List Nat} (h : seen.map (fun i => bs[i]?) = pre.map some) {i : Nat} (hi : i ∈ seen) : i < bs.length := by
  have : bs[i]? ∈ pre.map some := by rw [← h]; exact List.mem_map.2 ⟨i, hi, rfl⟩
  obtain ⟨b, _, e⟩ := List.mem_map.1 this
  exact (List.getElem?_eq_some_iff.1 e.symm).1
theorem seen_perm {bs pre : List BAt} {seen : List Nat} (hn : seen.Nodup) (h : seen.map (fun i => bs[i]?) = pre.map some) (hall : ∀ i, i < bs.length → i ∈ seen) : pre.Perm bs := by
  have hp : seen.Perm (List.range bs.length) := (List.perm_ext_iff_of_nodup hn List.nodup_range).2 fun i => by rw [List.mem_range]; exact ⟨seen_lt h, hall i⟩
  have h2 := (hp.map (fun i => bs[i]?)).filterMap id
  rw [h] at h2
  have e1 : (pre.map some).filterMap id = pre := by rw [List.filterMap_map]; simp
  have e2 : ((List.range bs.length).map (fun i => bs[i]?)).filterMap id = bs := by
    have : (List.range bs.length).map (fun i => bs[i]?) = bs.map some := by
      refine List.ext_getElem? fun i => ?_
      by_cases hi : i < bs.length
      · simp [hi]
      · simp [hi]
    rw [this, List.filterMap_map]
    simp
  rwa [e1, e2] at h2
theorem seen_len {bs pre : List BAt} {seen : List Nat} (h : seen.map (fun i => bs[i]?) = pre.map some) : pre.length = seen.length := by
  have := congrArg List.length h
  simpa using this.symm
theorem seen_room {bs pre : List BAt} {seen : List Nat} (hn : seen.Nodup) (h : seen.map (fun i => bs[i]?) = pre.map some) {i : Nat} (hi : i < bs.length) (hs : i ∉ seen) : seen.length < bs.length := by
  have h1 : (i :: seen).Nodup := List.nodup_cons.2 ⟨hs, hn⟩
  have h2 : (i :: seen) ⊆ List.range bs.length := fun j hj => by
    rw [List.mem_range]
    rcases List.mem_cons.1 hj with rfl | hj
    · exact hi
    · exact seen_lt h hj
  have h3 : (i :: seen).Perm ((List.range bs.length).filter (fun j => decide (j ∈ i :: seen))) := (List.perm_ext_iff_of_nodup h1 (List.nodup_range.filter _)).2 fun j => by
    rw [List.mem_filter]
    exact ⟨fun hj => ⟨h2 hj, by simpa using hj⟩, fun hj => by simpa using hj.2⟩
  have h4 := h3.length_eq
  have h5 := List.length_filter_le (fun j => decide (j ∈ i :: seen)) (List.range bs.length)
  rw [← h4, List.length_cons, List.length_range] at h5
  omega
theorem vEnt {bs : List BAt} {e : MapEntry} (h : e ∈ (bs.mapIdx mEnt).toArray.toList) : ∃ i b, bs[i]? = some b ∧ e = mEnt i b := by
  rw [List.mem_mapIdx] at h
  obtain ⟨i, hi, rfl⟩ := h
  exact ⟨i, bs[i], List.getElem?_eq_getElem hi, rfl⟩
theorem vBorn (bs : List BAt) : ((bs.mapIdx mEnt).toArray.toList.map (·.born)).Nodup := by
  have : (bs.mapIdx mEnt).toArray.toList.map (·.born) = List.range bs.length := by
    refine List.ext_getElem? fun i => ?_
    by_cases hi : i < bs.length
    · simp [hi, mEnt]
    · simp [hi]
  rw [this]
  exact List.nodup_range
theorem vRng_next {bs : List BAt} {r q : Nat} {pre : List BAt} {w : World} (h : VRng bs r q pre w) (ty : TypeId) :
    (pre.Perm bs ∧ (Instr.next (.pointer (some ⟨q, 0, none⟩)) false ty).run Tryz.prog w = .ok (.tuple #[.bool false]) w) ∨
    ∃ b w', b ∈ bs ∧ (Instr.next (.pointer (some ⟨q, 0, none⟩)) false ty).run Tryz.prog w = .ok (.tuple #[.bool true, .agg #[.string b.kind, .string b.name], .agg #[.string b.kind, .string b.name, b.v]]) w' ∧ VRng bs r q (pre ++ [b]) w' ∧ pre.length < bs.length ∧ vLeft bs.length q w' < vLeft bs.length q w ∧ w.grownBy w' (some q) ∧ (Instr.entry (.pointer (some ⟨q, 0, none⟩))).run Tryz.prog w' = .ok (.tuple #[.agg #[.string b.kind, .string b.name], .agg #[.string b.kind, .string b.name, b.v]]) w' := by
  obtain ⟨hm, seen, hq, hn, hs⟩ := h
  have hq' := hq
  have hm' := hm
  unfold mObj at hm
  rcases run_next_at (P := Tryz.prog) w ty q r bs.length bs.length seen.toArray _ _ hq hm (fun x hx => by
      obtain ⟨i, b, hi, rfl⟩ := vEnt hx
      exact (List.getElem?_eq_some_iff.1 hi).1) (Nat.le_refl _) with ⟨h0, hrun⟩ | ⟨e, he, w1, hw1, hrun⟩
  · refine .inl ⟨seen_perm hn hs fun i hi => ?_, hrun⟩
    have := all_seen _ _ h0 (mEnt i bs[i]) (by rw [List.mem_mapIdx]; exact ⟨i, hi, rfl⟩)
    simpa [mEnt] using this
  · obtain ⟨hin, hnot⟩ := mem_left he
    obtain ⟨i, b, hi, rfl⟩ := vEnt hin
    have hns : i ∉ seen := by
      have : (seen.toArray.contains i) = false := hnot
      simpa using this
    have hil := (List.getElem?_eq_some_iff.1 hi).1
    have hroom := seen_room hn hs hil hns
    have hne : r ≠ q := by
      intro e
      subst e
      rw [hq'] at hm
      cases hm
    have hqs : q < w.heap.size := (Array.getElem?_eq_some_iff.1 hq').1
    have hh : w1.heap = w.heap := by rcases hw1 with rfl | rfl <;> rfl
    have hq2 : (ChangeMaps.setBlock w1 q (.mapIter (some r) bs.length (seen.toArray.push i) bs.length)).heap[q]? = some (.mapIter (some r) bs.length (seen ++ [i]).toArray bs.length) := by
      simp [ChangeMaps.setBlock, hh, hqs]
    have hm2 : (ChangeMaps.setBlock w1 q (.mapIter (some r) bs.length (seen.toArray.push i) bs.length)).heap[r]? = some (mObj bs) := by
      simp [ChangeMaps.setBlock, hh, hne.symm, hm']
    refine .inr ⟨b, _, List.mem_of_getElem? hi, hrun, ⟨hm2, seen ++ [i], hq2, ?_, ?_⟩, by rw [seen_len hs]; exact hroom, ?_, ?_, ?_⟩
    · rw [List.nodup_append]
      exact ⟨hn, by simp, fun a ha c hc => by rw [List.mem_singleton.1 hc]; exact fun e => hns (e ▸ ha)⟩
    · simp [hs, hi]
    · unfold vLeft
      rw [show (mEnt i b).born = i from rfl, hq2, hq']
      simp
      omega
    · refine ⟨?_, ?_, ?_, ?_, fun k hk hne2 => ?_⟩
      · rcases hw1 with rfl | rfl <;> rfl
      · rcases hw1 with rfl | rfl <;> rfl
      · rcases hw1 with rfl | rfl <;> rfl
      · simp [ChangeMaps.setBlock, hh]
      · have : q ≠ k := fun e => hne2 (by rw [e])
        simp [ChangeMaps.setBlock, hh, this]
    · refine run_entry_at (P := Tryz.prog) _ q r bs.length seen.toArray _ bs.length (mEnt i b) ?_ (by unfold mObj at hm2; exact hm2) hin (vBorn bs)
      simp [ChangeMaps.setBlock, hh, hqs, mEnt]
theorem VRng.walks {bs : List BAt} {r q : Nat} {pre : List BAt} {w w' : World} (h : VRng bs r q pre w) (hk : KeepsWalks w w') : VRng bs r q pre w' ∧ vLeft bs.length q w' = vLeft bs.length q w := by
  obtain ⟨hm, seen, hq, hn, hs⟩ := h
  have hq2 := hk.same q _ hq rfl
  refine ⟨⟨hk.same r _ hm rfl, seen, hq2, hn, hs⟩, ?_⟩
  unfold vLeft
  rw [hq, hq2]
theorem VRng.isWalk {bs : List BAt} {r q : Nat} {pre : List BAt} {w : World} (h : VRng bs r q pre w) : ∃ o : Obj, w.heap[q]? = some o ∧ o.isWalk = true := by
  obtain ⟨_, seen, hq, _⟩ := h
  exact ⟨_, hq, rfl⟩
section
variable {F : Fence} {n : Nat} (w : World) {ops : Array Oper} {rest : List Oper} {o : Oper} {a : Act} {Q : Exit → Act → World → Prop}
theorem wpListIn_rangeH (hg : o.guard = none) (m : Operand) (hop : o.op = Op.range 70 m) (r : Nat) (bs : List BAt) (hm : a.eval m = .map (some r)) (h : w.heap[r]? = some (mObj bs))
    (hK : ∀ w', VRng bs r w.heap.size [] w' → w.grownBy w' none → wpListIn F n Tryz.prog ops Q rest (a.put o.dst (.pointer (some ⟨w.heap.size, 0, none⟩))) w') : wpListIn F n Tryz.prog ops Q (o :: rest) a w := by
  refine wpListIn_plain hg fun K' hK' => ?_
  have hrun := run_range_map (P := Tryz.prog) w 70 73 46 r _ _ Tryz.underlying70 (by unfold mObj at h; exact h)
  unfold Oper.wpIn
  refine ⟨?_, ?_⟩
  · simp [Oper.about, hop]
  · rw [Oper.semAt_plain F _ _ (by rw [hop]; intro c hc'; cases hc')]
    simp [execOp, hop, hm, hrun, Result.andThen]
    refine hK' _ _ (hK _ ⟨((MapKept.heap_alloc w _).2 r (Array.getElem?_eq_some_iff.1 h).1).trans h, [], (MapKept.heap_alloc w _).1, List.nodup_nil, rfl⟩ (World.grownBy_alloc w _ none))
theorem wpListIn_nextH (hg : o.guard = none) (it : Operand) (hop : o.op = Op.next it false) (r q : Nat) (bs pre : List BAt) (hit : a.eval it = .pointer (some ⟨q, 0, none⟩)) (h : VRng bs r q pre w)
    (hDone : pre.Perm bs → wpListIn F n Tryz.prog ops Q rest (a.put o.dst (.tuple #[.bool false])) w)
    (hMore : ∀ b w', b ∈ bs → VRng bs r q (pre ++ [b]) w' → pre.length < bs.length → vLeft bs.length q w' < vLeft bs.length q w → w.grownBy w' (some q) → (Instr.entry (.pointer (some ⟨q, 0, none⟩))).run Tryz.prog w' = .ok (.tuple #[.agg #[.string b.kind, .string b.name], .agg #[.string b.kind, .string b.name, b.v]]) w' → wpListIn F n Tryz.prog ops Q rest (a.put o.dst (.tuple #[.bool true, .agg #[.string b.kind, .string b.name], .agg #[.string b.kind, .string b.name, b.v]])) w') : wpListIn F n Tryz.prog ops Q (o :: rest) a w := by
  refine wpListIn_plain hg fun K' hK' => ?_
  unfold Oper.wpIn
  refine ⟨by simp [Oper.about, hop], ?_⟩
  rw [Oper.semAt_plain F _ _ (by rw [hop]; intro c hc'; cases hc')]
  rcases vRng_next h o.type with ⟨hp, hrun⟩ | ⟨b, w', hb, hrun, h1, h2, h3, h4, h5⟩
  · simp [execOp, hop, hit, hrun, Result.andThen]
    exact hK' _ _ (hDone hp)
  · simp [execOp, hop, hit, hrun, Result.andThen]
    exact hK' _ _ (hMore b w' hb h1 h2 h3 h4 h5)
end
end Go.Proofs.YtpdahhnjhggocaaGreatDoor
namespace Go.Proofs.YtpdahhnjhggocaaGreatDoor
open Go.RowKit Go.Shelf
attribute [local go_sem] Oper.semAt_some
abbrev BIn (bs : List BAt) := { b : BAt // b ∈ bs }
abbrev BIn.encs {bs : List BAt} (x : BIn bs) : Array Value := #[.agg #[.string x.1.kind, .string x.1.name, x.1.v]]
set_option maxRecDepth 100000 in
set_option maxHeartbeats 2000000 in
theorem values1_in (F : Fence) (n : Nat) (hf : F.fn 114) (hro : F.round = none) (hn : 1 ≤ n) (l Bm r : Nat) (bs : List BAt) (hsl : ∀ b ∈ bs, ∃ a m c, b.v = .slice a m c) (J Jx : List (BIn bs) → World → Prop)
    (hY : ∀ pre x W, J pre W → pre.length < bs.length → YieldAt F (n - 1) Tryz.prog l (BIn.encs x) W fun e W' =>
      (e = .returned (.bool true) ∧ J (pre ++ [x]) W' ∧ KeepsWalks W W') ∨ (e = .returned (.bool false) ∧ Jx (pre ++ [x]) W'))
    (W : World) (hJ : AbidesFrom W.heap.size J) (hm : W.cell? ⟨Bm, 0, none⟩ = some (.map (some r))) (hown : W.heap[r]? = some (mObj bs)) (h0 : J [] W) :
    CallsIn F n Tryz.prog 114 #[.func (.yield l) #[] #[], .pointer (some ⟨Bm, 0, none⟩)] W fun e W' => (∃ v, e = .returned v) ∧
      ((∃ xs, (xs.map Subtype.val).Perm bs ∧ J xs W') ∨ (∃ pre, True ∧ Jx pre W')) := by
  refine callsIn_of_wp Tryz.func114 rfl hf ?_ hro
  simp only [Tryz.ntmps114, List.size_toArray, List.length_cons, List.length_nil, Nat.reduceAdd, Nat.reduceSub, Array.replicate_succ, Array.replicate_zero, List.push_toArray, List.append_toArray, List.nil_append, List.cons_append]
  gi_wp2_with (first
    | (gi_at_range; refine wpListIn_rangeH _ rfl _ rfl r bs rfl hown ?_; intro w0 hrg0 hg0)
    | gi_in)
  go_frame
  gi_loopw [4] (fun _ wr => ∃ ps : List (BIn bs), VRng bs r W.heap.size (ps.map Subtype.val) wr ∧ J ps wr)
    (fun _ wr => vLeft bs.length W.heap.size wr)
  case atStart =>
    exact ⟨[], hrg0, hJ [] W w0 none h0 hg0 (fun r e => by cases e)⟩
  case round =>
    obtain ⟨ps, hrg, hJs⟩ := hrel
    gi_wp2_with (first
      | (gi_at_next; refine wpListIn_nextH _ rfl _ rfl r W.heap.size bs _ rfl hrg ?_ ?_)
      | gi_in)
    · intro hp
      gi_wp2
      go_end0
      exact ⟨⟨_, rfl⟩, .inl ⟨ps, hp, hJs⟩⟩
    · intro b w2 hb hrg2 hlt hlf hg2 hen
      have hJ2 : J ps w2 := hJ ps wr w2 (some W.heap.size) hJs hg2 (fun r e => by cases e; exact ⟨Nat.le_refl _, hrg.isWalk⟩)
      obtain ⟨ba, bm, bc, hv⟩ := hsl b hb
      have hJ3 : J ps (w2.alloc (.cells #[.string b.kind, .string b.name, .slice ba bm bc] 46)) := hJ ps w2 _ none hJ2 (World.grownBy_alloc _ _ none) (fun r e => by cases e)
      obtain ⟨fn, tmps, assign, body, hy, hR⟩ := hY ps ⟨b, hb⟩ _ hJ3 (by simpa using hlt)
      dsimp only [BIn.encs] at hy
      rw [hv] at hy hen
      have hrg2' : VRng bs r W.heap.size ((ps ++ [(⟨b, hb⟩ : BIn bs)]).map Subtype.val) w2 := by rw [List.map_append]; exact hrg2
      gi_wp2
      refine hR.mono ?_
      rintro e W3 (⟨rfl, hJ4, hk3⟩ | ⟨rfl, hJx3⟩)
      · gi_wp2
        have hw := hrg2'.walks ((KeepsWalks.alloc _ _).trans hk3)
        go_roundw
        case rel => exact ⟨ps ++ [⟨b, hb⟩], hw.1, hJ4⟩
        case measure => rw [hw.2]; exact hlf
      · gi_wp2
        refine bodyPost_ret (results_none rfl _ _ _) rfl ?_
        exact ⟨⟨_, rfl⟩, .inr ⟨_, trivial, hJx3⟩⟩
theorem values_stops (F : Fence) (n : Nat) (hf : F.fn 114) (hro : F.round = none) (hn : 1 ≤ n) (Bm r : Nat) (bs : List BAt) (hsl : ∀ b ∈ bs, ∃ a m c, b.v = .slice a m c) (w : World) (hBm : Bm < w.heap.size) (hm : w.cell? ⟨Bm, 0, none⟩ = some (.map (some r))) (hown : w.heap[r]? = some (mObj bs)) :
    SeqStopsK F n Tryz.prog 114 #[.pointer (some ⟨Bm, 0, none⟩)] (fun x : BIn bs => BIn.encs x) KeepsWalks (fun xs => (xs.map Subtype.val).Perm bs) (fun _ => True) bs.length w := fun l J Jx W hW hJ _ hY h0 =>
  values1_in F n hf hro hn l Bm r bs hsl J Jx hY W hJ ((hW.cell (p := ⟨Bm, 0, none⟩) hBm).trans hm) ((hW.block r (Array.getElem?_eq_some_iff.1 hown).1).trans hown) h0
end Go.Proofs.YtpdahhnjhggocaaGreatDoor
namespace Go.Proofs.YtpdahhnjhggocaaGreatDoor
open Go.RowKit Go.Shelf
attribute [local go_sem] Oper.semAt_some
theorem cells_new3 (w : World) (x y z : Value) (t : TypeId) : ∀ j u, [x, y, z][j]? = some u → (w.alloc (.cells #[x, y, z] t)).cell? ((⟨w.heap.size, 0, none⟩ : Addr).add j) = some u := by
  intro j u hj
  match j, hj with
  | 0, hj => simp at hj; subst hj; simp [Addr.add]
  | 1, hj => simp at hj; subst hj; simp [Addr.add]
  | 2, hj => simp at hj; subst hj; simp [Addr.add]
  | (j + 3), hj => simp at hj
set_option maxRecDepth 100000 in
set_option maxHeartbeats 4000000 in
theorem appendSeq_in (F : Fence) (n : Nat) (h1f : F.fn 169) (h2f : F.fn 114) (hro : F.round = none) (hn : 3 ≤ n) (Bm r : Nat) (bs : List BAt) (hlen : bs.length ≤ 1000) (hsl : ∀ b ∈ bs, ∃ a m c, b.v = .slice a m c) (w : World) (hm : w.cell? ⟨Bm, 0, none⟩ = some (.map (some r))) (hown : w.heap[r]? = some (mObj bs)) :
    CallsIn F n Tryz.prog 169 #[.slice none 0 0, .func (.func 114) #[] #[.pointer (some ⟨Bm, 0, none⟩)]] w fun e w' => ∃ v xs, e = .returned v ∧ List.Perm xs bs ∧ w'.ownsRow w.heap.size 46 3 v xs.length (xs.flatMap BAt.cells) ∧ Below w.heap.size w w' := by
  have h1 : 1 ≤ n := by omega
  obtain ⟨i0, hi, hz0, hz1, hz2⟩ := info_parts infoBlock
  have hBm : Bm < w.heap.size := World.block_lt_of_cell? w _ hm
  refine callsIn_of_wp_marks Tryz.func169 rfl h1f ?_ hro
  simp only [Tryz.ntmps169, List.size_toArray, List.length_cons, List.length_nil, Nat.reduceAdd, Nat.reduceSub, Array.replicate_succ, Array.replicate_zero, List.push_toArray, List.append_toArray, List.nil_append, List.cons_append]
  gi_wp2
  have bO := Boxed.new w 23 (.slice none 0 0)
  have hB0 : Below w.heap.size w (w.alloc (.cells #[.slice none 0 0] 23)) := (Below.refl _ w).alloc (Nat.le_refl _) _
  have hsz : (w.alloc (.cells #[.slice none 0 0] 23)).heap.size = w.heap.size + 1 := by simp
  obtain ⟨W0, hW0⟩ : ∃ W0, w.alloc (.cells #[.slice none 0 0] 23) = W0 := ⟨_, rfl⟩
  rw [hW0] at bO hB0 hsz ⊢
  clear hW0
  refine wpIn_rangeFunc_ownH hro h1 (gf := 114) (lb := #[.pointer (some ⟨Bm, 0, none⟩)]) rfl h2f (enters_of Tryz.func114 (by kernel_rfl) rfl)
    (values_stops F (n - 1) h2f hro (by omega) Bm r bs hsl W0 (by omega) ((hB0.cell (p := ⟨Bm, 0, none⟩) hBm).trans hm) ((hB0.block r (Array.getElem?_eq_some_iff.1 hown).1).trans hown)) walksK_t walksK_b (Below.refl _ _) (fun _ => rfl)
    (fun pre W => (∃ v, Boxed W w.heap.size 23 v ∧ W.ownsRow w.heap.size 46 3 v pre.length ((pre.map Subtype.val).flatMap BAt.cells) ∧ True) ∧ Below w.heap.size w W)
    (fun _ _ _ => False)
    (OwnFrom.and (Own.from (holdsRow_own w.heap.size w.heap.size 23 46 3 (fun pre : List (BIn bs) => pre.length) (fun pre => (pre.map Subtype.val).flatMap BAt.cells) (fun _ _ => True)) _) (ownFrom_below (Nat.le_refl _) (by omega)))
    (fun _ _ _ _ _ hs _ _ => hs)
    ⟨⟨_, bO, World.ownsRow_nil _ _ _ _, trivial⟩, hB0⟩
    (fun x a' W => ∃ Bx, w.heap.size < Bx ∧ W.heap[Bx]? = some (.cells #[.string x.1.kind, .string x.1.name, x.1.v] 46 (0, 0)) ∧ a' = { tmps := #[.slice none 0 0, .func (.func 114) #[] #[.pointer (some ⟨Bm, 0, none⟩)], .pointer (some ⟨w.heap.size, 0, none⟩), undef, .slice none 0 0, .pointer (some ⟨Bx, 0, none⟩), .func (.func 114) #[] #[.pointer (some ⟨Bm, 0, none⟩)], .agg #[.string x.1.kind, .string x.1.name, x.1.v], undef, undef, undef, undef, undef], defers := [] })
    (fun x a' _ X Y row hs hg hr => by
      obtain ⟨Bx, h1, h2, h3⟩ := hs
      refine ⟨Bx, h1, (hg.block Bx (Array.getElem?_eq_some_iff.1 h2).1 (fun e => ?_)).trans h2, h3⟩
      obtain ⟨_, o, ho, hc⟩ := hr Bx e.symm
      rw [h2] at ho
      cases ho
      cases hc)
    ?assign ?body ?done ?stop
  case assign =>
    rintro l pre ⟨⟨bk, bn, bv, bl⟩, hx⟩ W K ⟨⟨v, hv, hrow, _⟩, hB1⟩ hK
    obtain ⟨ba, bm, bc, rfl⟩ : ∃ a m c, bv = .slice a m c := hsl _ hx
    gi_wp2
    exact hK _ _ ((KeepsOthers.alloc _ _).from _) (KeepsWalks.alloc _ _) ⟨⟨v, hv.alloc _, hrow.alloc _, trivial⟩, hB1.alloc hB1.size _⟩ ⟨W.heap.size, hv.lt, World.alloc_heap_new _ _, rfl⟩
  case body =>
    rintro l pre ⟨⟨bk, bn, bv, bl⟩, hx⟩ a' W hl _ ⟨⟨v, hv, hrow, _⟩, hB⟩ ⟨Bx, hBx, bX, rfl⟩ hlt
    obtain ⟨ba, bm, bc, rfl⟩ : ∃ a m c, bv = .slice a m c := hsl _ hx
    have hc := hv.cell
    have k0 := cell_of_block bX 0
    have k1 := cell_of_block bX 1
    have k2 := cell_of_block bX 2
    simp only [List.getElem?_toArray, List.getElem?_cons_zero, List.getElem?_cons_succ] at k0 k1 k2
    gi_wp2_with (gi_at_builtin; refine wpListIn_append_own _ rfl _ _ 23 rfl w.heap.size 46 i0 _ 3 56 Tryz.underlying23 hi hz0 hz1 hz2 rfl (by decide) _ _ _ rfl (hrow.alloc _) ⟨W.heap.size, 0, none⟩ 1 1 [.string bk, .string bn, .slice ba bm bc] rfl rfl (cells_new3 _ _ _ _ _) (by simp [Value.oneCell']) (by unfold maxLen; omega) (by omega) (by have := hB.size; simp; omega) ?_; intro v' w1 hown' hgrow _; obtain ⟨g', cap', rfl⟩ := ownsRow_succ hown'; obtain ⟨hv1, hv2, hr2, hk2, hb2⟩ := hv.appended (by decide) hrow hB.size (Nat.le_refl _) hown' hgrow; have hc1 := hv1.cell; have hf1 := hv1.frozen)
    refine ⟨hk2.from _, ⟨hk2.size, fun k o h ho => hk2.same k o h (Obj.not_cells_of_walk ho)⟩, ⟨_, hv2, ?_⟩, hB.trans hb2⟩
    have e1 : (pre ++ [(⟨⟨bk, bn, .slice ba bm bc, bl⟩, hx⟩ : BIn bs)]).unattach.flatMap BAt.cells = (pre.map Subtype.val).flatMap BAt.cells ++ [.string bk, .string bn, .slice ba bm bc] := by
      show ((pre ++ [(⟨⟨bk, bn, .slice ba bm bc, bl⟩, hx⟩ : BIn bs)]).map Subtype.val).flatMap BAt.cells = _
      rw [List.map_append, List.flatMap_append]
      rfl
    rw [e1, List.length_append]
    exact hr2
  case done =>
    rintro D ys W hD hp ⟨⟨v, hv, hrow, _⟩, hB⟩ hK
    have hc := hv.cell
    gi_wp2
    refine ⟨by simp, .inl ⟨_, _, rfl, run_takeDeferred hK, ?_⟩⟩
    refine ⟨_, results_tmp rfl _ _ _, v, ys.map Subtype.val, rfl, hp, ?_, hB.trans (belowK_b (w := w) (Nat.le_refl _) W D _ _ (by omega) hK rfl rfl)⟩
    rw [List.length_map]
    exact ownsRow_putObj hrow _ hK rfl
  case stop =>
    rintro D c pre W _ _ h _
    exact h.elim
def CollPost (bs : List BAt) (w : World) (e : Ending) (w' : World) : Prop := ∃ v xs, e = .returned v ∧ List.Perm xs bs ∧ w'.ownsRow w.heap.size 46 3 v xs.length (xs.flatMap BAt.cells) ∧ Below w.heap.size w w'
theorem collect_any (Bm r : Nat) (bs : List BAt) (hlen : bs.length ≤ 1000) (hsl : ∀ b ∈ bs, ∃ a m c, b.v = .slice a m c) (w : World) (hm : w.cell? ⟨Bm, 0, none⟩ = some (.map (some r))) (hown : w.heap[r]? = some (mObj bs)) :
    Calls Tryz.prog 113 #[.func (.func 114) #[] #[.pointer (some ⟨Bm, 0, none⟩)]] w fun e w' => CollPost bs w e w' := by
  have H : Calls Tryz.prog 169 #[.slice none 0 0, .func (.func 114) #[] #[.pointer (some ⟨Bm, 0, none⟩)]] w fun e w' => CollPost bs w e w' := (callsIn_wide (n := 4)).1 (appendSeq_in Fence.wide 4 trivial trivial rfl (by omega) Bm r bs hlen hsl w hm hown)
  go_enter Tryz.func113, Tryz.ntmps113
  go_wp2_with (go_at_call 169; refine H.mono ?_)
  rintro e w1 ⟨v, xs, rfl, h1, h2, h3⟩
  clear H
  go_wp2
  go_ret
  exact ⟨v, xs, rfl, h1, h2, h3⟩
def SortedPost (bs : List BAt) (w : World) (e : Ending) (w' : World) : Prop := ∃ v xs, e = .returned v ∧ List.Perm xs bs ∧ (w'.ownsRow w.heap.size 46 3 v xs.length (xs.flatMap BAt.cells) ∧ (∀ i j : Nat, i < j → ∀ a b, xs[i]? = some a → xs[j]? = some b → blockLt b.plain a.plain = false)) ∧ Below w.heap.size w w'
theorem sorted_any (Bm r : Nat) (bs : List BAt) (hlen : bs.length ≤ 1000) (hsl : ∀ b ∈ bs, ∃ a m c, b.v = .slice a m c) (w : World) (hm : w.cell? ⟨Bm, 0, none⟩ = some (.map (some r))) (hown : w.heap[r]? = some (mObj bs)) :
    Calls Tryz.prog 49 #[.func (.func 114) #[] #[.pointer (some ⟨Bm, 0, none⟩)], .func (.func 51) #[] #[]] w fun e w' => SortedPost bs w e w' := by
  have H := collect_any Bm r bs hlen hsl w hm hown
  go_enter Tryz.func49, Tryz.ntmps49
  go_wp2_with (go_at_call 113; refine H.mono ?_)
  rintro e w1 ⟨v, xs, rfl, h1, h2, h3⟩
  clear H
  have hl : xs.length = bs.length := h1.length_eq
  have H := sortBlocks_any h2 (fun x hx => hsl x (h1.subset hx)) (by omega)
  go_wp2_with (go_at_call 76; refine H.mono ?_)
  rintro e w2 ⟨rfl, ys, q1, q2, q3, q4⟩
  clear H
  go_wp2
  go_ret
  refine ⟨v, ys, rfl, q1.trans h1, ⟨by rw [q1.length_eq]; exact q2, q3⟩, ?_⟩
  exact h3.grown q4 h3.size (fun k hk => (h2.lt k hk).1)
end Go.Proofs.YtpdahhnjhggocaaGreatDoor
