import Derived.Test.YtpdahhnjhggocabGreatDoorBun40
import Derived.WalkMore
namespace Go.Proofs.YtpdahhnjhggocabGreatDoor
open Go.RowKit
theorem box_isAt {B Y : Nat} {k n : ByteArray} {v : Value} {W : World} (h : W.heap[Y]? = some (.cells #[.string k, .string n, v] 64 (0, 0))) (hB : B ≤ Y) : (boxR Y k n v).isAt B W := ⟨rfl, .inr ⟨Y, 1, #[.string k, .string n, v], rfl, hB, h, Nat.le_refl _, by decide, rfl, rfl⟩⟩
theorem box_heap {B Y : Nat} {k n : ByteArray} {v : Value} {W : World} (h : (boxR Y k n v).isAt B W) : W.heap[Y]? = some (.cells #[.string k, .string n, v] 64 (0, 0)) := by
 have h' : W.ownsRow B 64 3 (.slice (some ⟨Y, 0, none⟩) 1 1) 1 [.string k, .string n, v] := h
 obtain ⟨_, h | ⟨g, cap, cur, e, _, hh, _, _, hs, ht⟩⟩ := h'
 ·cases h.1
 ·cases e
  have h3 : cur.toList = [.string k, .string n, v] := by
   have e2 : cur.toList.length = 3 := by simpa using hs
   rw [List.take_of_length_le (by omega)] at ht
   exact ht
  have : cur = #[.string k, .string n, v] := by
   apply Array.toList_inj.1; rw [h3]
  rw [hh, this]
theorem grows_form {B : Nat} {W : World} {v : Value} {gs : List GAt} (h : Mem B W (grows v gs)) : ∃ a c, v = .slice a gs.length c := by
 have h1 : W.ownsRow B 64 3 v gs.length ((gs.map GAt.b).flatMap BAt.cells) := Mem.head h
 obtain ⟨a, c, e, _⟩ := own_form h1
 exact ⟨a, c, e⟩
theorem wrows_form {B : Nat} {W : World} {v : Value} {ys : List WAt} (h : Mem B W (wrows v ys)) : ∃ a c, v = .slice a ys.length c := by
 have h1 : W.ownsRow B 82 2 v ys.length ((ys.map WAt.l).flatMap LAt.cells) := Mem.head h
 obtain ⟨a, c, e, _⟩ := own_form h1
 exact ⟨a, c, e⟩
theorem row_form {B n c : Nat} {W : World} {a : Option Addr} {xs : List Value} (h : W.ownsRow B 9 1 (.slice a (n + 1) c) (n + 1) xs) : ∃ g, a = some ⟨g, 0, none⟩ := by
 obtain ⟨a', c', e, h0⟩ := own_form h
 cases e
 rcases h0 with h0 | h0
 ·omega
 ·exact h0
theorem RdS.rows {R : Nat} {w : World} {N : Nat} {L L' : List MRow} {rest : ByteArray} {m : Nat} {W : World} (h : RdS R w N L rest m W) (hm : Mem w.heap.size W L') : RdS R w N L' rest m W := ⟨hm, h.box, h.gr, h.lt, h.sz, h.n, h.big⟩
theorem Mem.consNone {B : Nat} {W : World} {L : List MRow} {r : MRow} (h : Mem B W L) (hr : r.isAt B W) (h0 : r.v.ownBlock = none) : Mem B W (r :: L) := ⟨fun s hs => by
 rcases List.mem_cons.1 hs with rfl | hs
 ·exact hr
 ·exact h.1 s hs, List.pairwise_cons.2 ⟨fun s _ => .inl h0, h.2⟩⟩
def openR (Y : Nat) (kind name : ByteArray) (lv vr bv : Value) (ys : List WAt) (L : List RAt) (gs : List GAt) : List MRow := boxR Y kind name lv :: (rrows vr L ++ (wrows lv ys ++ grows bv gs))
theorem open_start {B Y : Nat} {kind name : ByteArray} {vr bv : Value} {L : List RAt} {gs : List GAt} {W3 W4 W5 : World} (h : Mem B W3 (grows bv gs)) (hB : B ≤ W3.heap.size) (hb : Below W3.heap.size W3 W4) (hY : W4.heap[Y]? = some (.cells #[.string kind, .string name, .slice none 0 0] 64 (0, 0))) (hYl : W3.heap.size ≤ Y) (hr : RulesAt W4.heap.size W5 vr L) (hb5 : Below W4.heap.size W4 W5) : Mem B W5 (openR Y kind name (.slice none 0 0) vr bv [] L gs) := by
 have h1 : Mem B W3 (wrows (.slice none 0 0) [] ++ grows bv gs) := Mem.consNone h (own_nil rfl rfl) rfl
 have h2 : Mem B W4 (boxR Y kind name (.slice none 0 0) :: (wrows (.slice none 0 0) [] ++ grows bv gs)) := Mem.cons h1 (box_isAt hY hYl) hb hB
 have h3 := Mem.join h2 hr hb5 (Nat.le_trans hB hb.size)
 exact Mem.perm h3 (List.perm_middle)
theorem open_box {B Y : Nat} {kind name : ByteArray} {lv vr bv : Value} {ys : List WAt} {L : List RAt} {gs : List GAt} {W : World} (h : Mem B W (openR Y kind name lv vr bv ys L gs)) : W.heap[Y]? = some (.cells #[.string kind, .string name, lv] 64 (0, 0)) := box_heap (h.1 _ (List.mem_cons_self ..))
theorem open_rules {B Y : Nat} {kind name : ByteArray} {lv vr bv : Value} {ys : List WAt} {L : List RAt} {gs : List GAt} {W : World} (h : Mem B W (openR Y kind name lv vr bv ys L gs)) : RulesAt B W vr L := Mem.left (Mem.tail h)
theorem open_lines {B Y : Nat} {kind name : ByteArray} {lv vr bv : Value} {ys : List WAt} {L : List RAt} {gs : List GAt} {W : World} (h : Mem B W (openR Y kind name lv vr bv ys L gs)) : Mem B W (wrows lv ys) := Mem.left (Mem.right (Mem.tail h))
theorem open_done {B Y : Nat} {kind name : ByteArray} {lv vr bv : Value} {ys : List WAt} {L : List RAt} {gs : List GAt} {W : World} (h : Mem B W (openR Y kind name lv vr bv ys L gs)) : Mem B W (grows bv gs) := Mem.right (Mem.right (Mem.tail h))
theorem open_add {B Y : Nat} {kind name : ByteArray} {lv lv' vr bv : Value} {ys : List WAt} {y : WAt} {L : List RAt} {gs : List GAt} {W W1 W2 : World} (h : Mem B W (y.r :: openR Y kind name lv vr bv ys L gs)) (hb : Below W.heap.size W W1) (ho : W2.ownsRow B 82 2 lv' (ys.length + 1) (((ys.map WAt.l) ++ [y.l]).flatMap LAt.cells)) (hg : W1.grownBy W2 lv.ownBlock) (hv : lv'.ownBlock = lv.ownBlock ∨ lv'.ownBlock = some W1.heap.size) : Mem B (W2.setCell ⟨Y, 2, none⟩ lv') (openR Y kind name lv' vr bv (ys ++ [y]) L gs) ∧ (W2.heap[Y]? = some (.cells #[.string kind, .string name, lv] 64 (0, 0))) := by
 have h1 := Mem.below h hb
 have e1 : (y.r :: openR Y kind name lv vr bv ys L gs).Perm (⟨lv, 82, 2, ys.length, (ys.map WAt.l).flatMap LAt.cells⟩ :: (boxR Y kind name lv :: (rrows vr L ++ (ys.map WAt.r ++ [y.r] ++ grows bv gs)))) := by
  unfold openR wrows
  simp only [List.cons_append]
  refine List.Perm.trans ?_ (List.Perm.swap _ _ _)
  refine (List.Perm.swap _ _ _).trans (List.Perm.cons _ ?_)
  refine (List.Perm.cons _ List.perm_middle).trans ?_
  refine (List.Perm.swap _ _ _).trans (List.Perm.cons _ ?_)
  rw [List.append_assoc]
  exact (List.perm_middle (a := y.r) (l₁ := rrows vr L)).symm.trans (List.Perm.append_left _ (List.perm_middle (a := y.r) (l₁ := ys.map WAt.r)).symm)
 have h2 := Mem.perm h1 e1
 have h3 := Mem.grow (r' := ⟨lv', 82, 2, ys.length + 1, ((ys.map WAt.l) ++ [y.l]).flatMap LAt.cells⟩) h2 ho hg hv
 have hbx := box_heap (h3.1 (boxR Y kind name lv) (by simp))
 refine ⟨?_, hbx⟩
 have hYB := (Mem.lt h3 (r := boxR Y kind name lv) (by simp) (g := Y) rfl).1
 have gY := grown_setCell' W2 Y 2 lv'
 have hb4 : (W2.setCell ⟨Y, 2, none⟩ lv').heap[Y]? = some (.cells #[.string kind, .string name, lv'] 64 (0, 0)) := by rw [heap_setCell_same W2 Y 2 _ _ _ hbx]; rfl
 have h4 := Mem.midTurn (A := [⟨lv', 82, 2, ys.length + 1, ((ys.map WAt.l) ++ [y.l]).flatMap LAt.cells⟩]) (r := boxR Y kind name lv) (r' := boxR Y kind name lv') h3 rfl (box_isAt hb4 hYB) gY
 refine Mem.perm h4 ?_
 unfold openR wrows
 simp only [List.cons_append, List.nil_append, List.map_append, List.map_cons, List.map_nil, List.length_append, List.length_cons, List.length_nil]
 refine (List.Perm.swap _ _ _).trans (List.Perm.cons _ ?_)
 rw [Nat.zero_add]
 exact List.perm_middle.symm
theorem open_shut {B Y : Nat} {kind name : ByteArray} {lv vr bv bv' : Value} {ys : List WAt} {L : List RAt} {gs : List GAt} {W W2 : World} (h : Mem B W (openR Y kind name lv vr bv ys L gs)) (ho : W2.ownsRow B 64 3 bv' (gs.length + 1) (((gs.map GAt.b) ++ [(⟨kind, name, lv, ys⟩ : GAt).b]).flatMap BAt.cells)) (hg : W.grownBy W2 bv.ownBlock) (hv : bv'.ownBlock = bv.ownBlock ∨ bv'.ownBlock = some W.heap.size) : Mem B W2 (grows bv' (gs ++ [⟨kind, name, lv, ys⟩])) := by
 have h1 : Mem B W (wrows lv ys ++ grows bv gs) := Mem.right (Mem.tail h)
 unfold grows at h1
 have h2 := Mem.perm h1 (List.perm_middle (a := (⟨bv, 64, 3, gs.length, (gs.map GAt.b).flatMap BAt.cells⟩ : MRow)))
 have h3 := Mem.grow (r' := ⟨bv', 64, 3, gs.length + 1, ((gs.map GAt.b) ++ [(⟨kind, name, lv, ys⟩ : GAt).b]).flatMap BAt.cells⟩) h2 ho hg hv
 refine Mem.perm h3 ?_
 unfold grows
 simp only [List.map_append, List.map_cons, List.map_nil, List.length_append, List.length_cons, List.length_nil, List.flatMap_append, List.flatMap_cons, List.flatMap_nil, List.append_nil]
 exact List.Perm.cons _ List.perm_append_comm
theorem grown_in {w W W' : World} {R : Nat} {o : Option Nat} (h : w.grownBy W (some R)) (hg : W.grownBy W' o) (ho : ∀ g, o = some g → w.heap.size ≤ g) : w.grownBy W' (some R) := ⟨hg.os.trans h.os, hg.tape.trans h.tape, hg.output.trans h.output, Nat.le_trans h.size hg.size, fun i hi hne => by
 rw [hg.block i (Nat.lt_of_lt_of_le hi h.size) (fun e => by have := ho i e.symm; omega)]
 exact h.block i hi hne⟩
theorem RdBox.other {R m : Nat} {rest : ByteArray} {W W' : World} {o : Option Nat} (h : RdBox R rest m W) (hg : W.grownBy W' o) (ho : o ≠ some R) : RdBox R rest m W' := (hg.block R (Array.getElem?_eq_some_iff.1 h).1 (fun e => ho e.symm)).trans h
theorem own_ge {R : Nat} {w : World} {N : Nat} {L : List MRow} {rest : ByteArray} {m : Nat} {W : World} (h : RdS R w N L rest m W) {r : MRow} (hr : r ∈ L) : ∀ g, r.v.ownBlock = some g → w.heap.size ≤ g := fun _ hg => (Mem.lt h.mem hr hg).1
theorem RdS.Yge {R Y : Nat} {w : World} {N : Nat} {kind name : ByteArray} {lv vr bv : Value} {ys : List WAt} {L : List RAt} {gs : List GAt} {rest : ByteArray} {m : Nat} {W : World} (h : RdS R w N (openR Y kind name lv vr bv ys L gs) rest m W) : w.heap.size ≤ Y := own_ge h (List.mem_cons_self ..) Y rfl
theorem RdS.added {R Y : Nat} {w : World} {N : Nat} {kind name : ByteArray} {lv lv' vr bv : Value} {ys : List WAt} {y : WAt} {L : List RAt} {gs : List GAt} {rest : ByteArray} {m : Nat} {W W1 W2 : World} (h : RdS R w N (y.r :: openR Y kind name lv vr bv ys L gs) rest m W) (hb : Below W.heap.size W W1) (ho : W2.ownsRow w.heap.size 82 2 lv' (ys.length + 1) (((ys.map WAt.l) ++ [y.l]).flatMap LAt.cells)) (hg : W1.grownBy W2 lv.ownBlock) (hv : lv'.ownBlock = lv.ownBlock ∨ lv'.ownBlock = some W1.heap.size) : RdS R w N (openR Y kind name lv' vr bv (ys ++ [y]) L gs) rest m (W2.setCell ⟨Y, 2, none⟩ lv') ∧ W2.heap[Y]? = some (.cells #[.string kind, .string name, lv] 64 (0, 0)) := by
 obtain ⟨h1, h2⟩ := open_add h.mem hb ho hg hv
 have hY := (h.rows (Mem.tail h.mem)).Yge
 have hlt := h.lt
 have hl : ∀ g, lv.ownBlock = some g → w.heap.size ≤ g := own_ge h (r := ⟨lv, 82, 2, ys.length, (ys.map WAt.l).flatMap LAt.cells⟩) (by unfold openR wrows; simp)
 have gY := grown_setCell' W2 Y 2 lv'
 have b2 : RdBox R rest m W2 := (h.box.below hb).other hg (fun e => by have := hl R e; omega)
 exact ⟨⟨h1, b2.other gY (fun e => by have := Option.some.inj e; omega), grown_in (grown_in (grown_trans h.gr (grown_of_below hb _)) hg hl) gY (fun g e => by cases e; exact hY), h.lt, h.sz, h.n, h.big⟩, h2⟩
theorem RdS.shut {R Y : Nat} {w : World} {N : Nat} {kind name : ByteArray} {lv vr bv bv' : Value} {ys : List WAt} {L : List RAt} {gs : List GAt} {rest : ByteArray} {m : Nat} {W W2 : World} (h : RdS R w N (openR Y kind name lv vr bv ys L gs) rest m W) (ho : W2.ownsRow w.heap.size 64 3 bv' (gs.length + 1) (((gs.map GAt.b) ++ [(⟨kind, name, lv, ys⟩ : GAt).b]).flatMap BAt.cells)) (hg : W.grownBy W2 bv.ownBlock) (hv : bv'.ownBlock = bv.ownBlock ∨ bv'.ownBlock = some W.heap.size) : RdS R w N (grows bv' (gs ++ [⟨kind, name, lv, ys⟩])) rest m W2 := by
 have hlt := h.lt
 have hl : ∀ g, bv.ownBlock = some g → w.heap.size ≤ g := own_ge h (r := ⟨bv, 64, 3, gs.length, (gs.map GAt.b).flatMap BAt.cells⟩) (by unfold openR grows; simp)
 exact ⟨open_shut h.mem ho hg hv, h.box.other hg (fun e => by have := hl R e; omega), grown_in h.gr hg hl, h.lt, h.sz, h.n, h.big⟩
theorem plainL_snoc (ys : List WAt) (y : WAt) : plainL (ys ++ [y]) = plainL ys ++ [⟨keyOf y.x, y.xs⟩] := by
 unfold plainL; rw [List.map_append, List.map_append]; rfl
theorem plainG_snoc (gs : List GAt) (b : GAt) : plainG (gs ++ [b]) = plainG gs ++ [⟨b.kind, b.name, plainL b.ys⟩] := by
 unfold plainG; rw [List.map_append, List.map_append]; rfl
def BlocksPost (R : Nat) (RES : PRes) (w : World) (e : Ending) (w' : World) : Prop := w.grownBy w' (some R) ∧ match RES with
 | .good bs => ∃ a n c gs, e = .returned (.tuple #[.slice a n c, .nilIface]) ∧ plainG gs = bs ∧ Mem w.heap.size w' (grows (.slice a n c) gs) ∧ (∀ b ∈ gs, b.sm) ∧ gs.length ≤ 1000000
 | .bad m c => e = .returned (.tuple #[.slice none 0 0, flt m c])
def OutR (R : Nat) (w : World) (N : Nat) (RES : PRes) (v : Value) (W : World) : Prop := ∃ gs rest m, RdS R w N (grows v gs) rest m W ∧ parseGo m (plainG gs) none (textLines rest.data.toList) = RES ∧ gs.length ≤ m ∧ ∀ b ∈ gs, b.sm
def InR (R : Nat) (w : World) (N : Nat) (RES : PRes) (Y m0 : Nat) (kind name : ByteArray) (bv vr : Value) (gs : List GAt) (L : List RAt) (W : World) : Prop := ∃ ys lv rest m, RdS R w N (openR Y kind name lv vr bv ys L gs) rest m W ∧ parseGo m (plainG gs) (some ⟨kind, name, plainL ys⟩) (textLines rest.data.toList) = RES ∧ (m0 ≤ m ∧ ys.length ≤ m) ∧ ∀ y ∈ ys, y.sm
set_option maxHeartbeats 8000000 in
set_option maxRecDepth 100000 in
theorem blocks_any {R : Nat} {rest : ByteArray} {w : World} (h : RdBox R rest 0 w) (hs : rest.size ≤ 1048576) (hn : (textLines rest.data.toList).length ≤ 1000000) (hst : ∀ W, w.grownBy W (some R) → StdAt W) : Calls Tryz.prog 110 #[.pointer (some ⟨R, 0, none⟩)] w fun e w' => BlocksPost R (parseGo 0 [] none (textLines rest.data.toList)) w e w' := by
 have hR : R < w.heap.size := (Array.getElem?_eq_some_iff.1 h).1
 obtain ⟨RES, hRES⟩ : ∃ RES, parseGo 0 [] none (textLines rest.data.toList) = RES := ⟨_, rfl⟩
 obtain ⟨N, hN⟩ : ∃ N, (textLines rest.data.toList).length = N := ⟨_, rfl⟩
 have HI := hid_in (show OutR R w N RES (.slice none 0 0) w from ⟨[], rest, 0, ⟨⟨by simp only [grows, List.flatMap_nil, List.mem_singleton]; rintro r rfl; exact own_nil rfl rfl, by simp [grows]⟩, h, grown_of_below (Below.refl w.heap.size w) _, hR, hs, by omega, by omega⟩, hRES, by simp, by simp⟩)
 rw [hRES]
 have HST := hid_in hst
 clear h hs hRES hst
 go_enter Tryz.func110, Tryz.ntmps110
 go_wp2
 go_step3
 go_wp2
 go_step3
 go_wp2
 go_loopw [4] (fun v wr => OutR R w N RES v wr) (fun _ wr => rdLines R wr)
 case atStart => exact HI.out
 case round =>
  clear HI
  obtain ⟨gs, rs, m, HS, hP, hgm, hgs⟩ := hrel
  obtain ⟨va, vc, rfl⟩ := grows_form HS.mem
  have hW := words_any HS.box HS.sz (by rw [HS.n]; exact HS.big)
  have HSH := hid_in HS
  rw [parseGo_next] at hP
  clear HS
  go_wp2_with (go_at_call 174; refine hW.mono ?_)
  rintro e w2 ⟨hg2, hpost⟩
  clear hW
  cases hx : nextW m (textLines rs.data.toList) with
  | ended m2 =>
   rw [hx] at hpost hP
   obtain ⟨rfl, hb2⟩ := hpost
   have hz := HSH.out.gr
   have hm1 := Mem.other HSH.out.mem hg2 HSH.out.lt
   have HO := hid_in (show BlocksPost R RES w (.returned (.tuple #[.slice va gs.length vc, .nilIface])) w2 from ⟨grown_trans HSH.out.gr hg2, by rw [← hP]; exact ⟨va, gs.length, vc, gs, rfl, rfl, hm1, hgs, by have := HSH.out.big; have := HSH.out.n; omega⟩⟩)
   clear HSH hm1 hP hg2 hb2 hz
   generalize gs.length = ng at *
   go_wp2
   rw [Exit.noGoto_ret]
   go_ret2
   exact HO.out
  | bad m2 =>
   rw [hx] at hpost hP
   obtain rfl := hpost
   have HO := hid_in (show BlocksPost R RES w (.returned (.tuple #[.slice none 0 0, flt m2 1])) w2 from ⟨grown_trans HSH.out.gr hg2, by rw [← hP]; rfl⟩)
   clear HSH hP hg2
   unfold flt at *
   generalize gs.length = ng at *
   go_wp2
   rw [Exit.noGoto_ret]
   go_ret2
   exact HO.out
  | words m2 x xs rst =>
   rw [hx] at hpost hP
   obtain ⟨a, c, r, rfl, hr, hz, hb, ho⟩ := hpost
   obtain ⟨g, rfl⟩ := row_form ho
   have hsm := nextW_small _ _ _ _ _ _ hx
   have hln := nextW_len _ _ _ _ _ _ hx
   have HS2 := HSH.out.read hx hg2 hr hz hb ho
   have hng : gs.length ≤ 1000000 := by have := HSH.out.n; have := HSH.out.big; omega
   have hrl := HSH.out.n
   have HRL := hid_in HSH.out.box.lines
   have HB := begin_any HS2.box (grows_in (Mem.tail HS2.mem)) (by rw [List.length_map]; omega) (own_has (Mem.head HS2.mem)) hsm.2 hsm.1
   have HS2H := hid_in HS2
   have HPH := hid_in (show (if (stepW (plainG gs) none x xs).1 ≠ 0 then PRes.bad m2 (stepW (plainG gs) none x xs).1 else parseGo m2 (stepW (plainG gs) none x xs).2.1 (stepW (plainG gs) none x xs).2.2 rst) = RES from hP)
   have HGS := hid_in hgs
   have HSM := hid_in hsm
   have HRR := hid_in hr
   clear HSH hP hg2 ho hb HS2 hx hgs hsm hr
   have hxl : ((xs.length : Int) + 1 == 0) = false := by rw [beq_eq_false_iff_ne]; omega
   generalize hnx : xs.length = nx at *
   generalize hngs : gs.length = ng at *
   have ENG := hid_in hngs
   have ENX := hid_in hnx
   clear hngs hnx
   go_wp2_with (go_at_call 175; refine HB.mono ?_)
   rintro e w3 ⟨b3, hbp⟩
   rw [show (gs.map GAt.b).map BAt.plain = plainG gs from rfl] at hbp
   clear HB
   rcases hbp with ⟨hc, rfl⟩ | ⟨hc, nm, hxs, rfl⟩
   ·have hRES := HPH.out
    rw [if_pos hc] at hRES
    generalize (stepW (plainG gs) none x xs).1 = cd at *
    have bx := (Below.refl w3.heap.size w3).alloc (Nat.le_refl _) (.cells #[.string ⟨#[]⟩, .string ⟨#[]⟩, .slice none 0 0] 64)
    have HO := hid_in (show BlocksPost R RES w (.returned (.tuple #[.slice none 0 0, flt m2 cd])) (w3.alloc (.cells #[.string ⟨#[]⟩, .string ⟨#[]⟩, .slice none 0 0] 64)) from ⟨grown_trans HS2H.out.gr (grown_trans (grown_of_below b3 _) (grown_of_below bx _)), by rw [← hRES]⟩)
    clear HPH HS2H hRES hc b3 bx
    unfold flt at *
    go_wp2
    rw [Exit.noGoto_ret]
    go_ret2
    exact HO.out
   ·subst hxs
    have hRES := HPH.out
    rw [if_neg (by rw [hc]; simp), stepW_head] at hRES
    have hnz := ENX.out
    obtain rfl : nx = 1 := by rw [← hnz]; rfl
    have HS3 := HS2H.out.below b3
    have bx := (Below.refl w3.heap.size w3).alloc (Nat.le_refl _) (.cells #[.string (keyOf x), .string (keyOf nm), .slice none 0 0] 64)
    have xb := alloc_here w3 (.cells #[.string (keyOf x), .string (keyOf nm), .slice none 0 0] 64)
    have HR := implRules_any (keyOf x) (w3.alloc (.cells #[.string (keyOf x), .string (keyOf nm), .slice none 0 0] 64))
    have HRESH := hid_in hRES
    have HS3H := hid_in HS3
    have HNM := hid_in (show (keyOf nm).size ≤ 200 from by have := HSM.out.2 nm (by simp); show nm.toArray.size ≤ 200; rw [List.size_toArray]; exact this)
    clear HPH HS2H hRES hc hnz ENX HS3 b3 HSM
    generalize hkx : keyOf x = kx at *
    generalize hkn : keyOf nm = kn at *
    clear hkx hkn
    have k0 := cell_of_block xb 0
    simp only [List.getElem?_toArray, List.getElem?_cons_zero] at k0
    go_wp2_with (go_at_call 54; refine HR.mono ?_)
    rintro e w5 ⟨vr, L, rfl, hLR, hRA, b5⟩
    obtain ⟨ra, rc, rfl, _⟩ : ∃ ra rc, vr = .slice ra L.length rc ∧ True := by
     obtain ⟨ra, rc, e, _⟩ := own_form (Mem.head hRA)
     exact ⟨ra, rc, e, trivial⟩
    generalize hnl : L.length = nl at *
    have hB3 : w.heap.size ≤ w3.heap.size := HS3H.out.gr.size
    have hOP := open_start (Mem.tail HS3H.out.mem) hB3 bx xb (Nat.le_refl _) hRA b5
    have HI := hid_in (show InR R w N RES w3.heap.size m2 kx kn (.slice va ng vc) (.slice ra nl rc) gs L w5 from ⟨[], .slice none 0 0, r, m2, (HS3H.out.below (bx.trans (b5.mono bx.size))).rows hOP, by rw [HRR.out]; exact HRESH.out, ⟨Nat.le_refl _, by simp⟩, by simp⟩)
    have HLR := hid_in hLR
    clear HR hRA hLR hOP b5 bx xb k0 HS3H HRESH HRR
    generalize hY : w3.heap.size = Y at *
    obtain ⟨wo, hwo⟩ : ∃ wo, wo = wr := ⟨_, rfl⟩
    subst hwo
    go_wp2
    go_loopw [4] (fun v wi => v = .slice va ng vc ∧ InR R w N RES Y m2 kx kn (.slice va ng vc) (.slice ra nl rc) gs L wi) (fun _ wi => rdLines R wi)
    case atStart => exact ⟨rfl, HI.out⟩
    case round =>
     clear HI
     obtain ⟨rfl, ys, lv, r4, m4, HS, hP, ⟨hm24, hym⟩, hys⟩ := hrel
     obtain ⟨la, lc, rfl⟩ := wrows_form (open_lines HS.mem)
     have hW := words_any HS.box HS.sz (by rw [HS.n]; exact HS.big)
     have HSH := hid_in HS
     rw [parseGo_next] at hP
     clear HS
     go_wp2_with (go_at_call 174; refine hW.mono ?_)
     rintro e w6 ⟨hg6, hpost⟩
     clear hW
     cases hx5 : nextW m4 (textLines r4.data.toList) with
     | ended m5 =>
      rw [hx5] at hpost hP
      obtain ⟨rfl, hb6⟩ := hpost
      have hm6 := Mem.other HSH.out.mem hg6 HSH.out.lt
      have q2 := cell_of_block (open_box hm6) 2
      have f2 := frozen_of_block (open_box hm6) 2
      simp only [List.getElem?_toArray, List.getElem?_cons_zero, List.getElem?_cons_succ] at q2
      have HA := add_open (vr := .slice ra nl rc) (ev := .slice la ys.length lc) hb6
      have hYg := HSH.out.Yge
      have HO := hid_in (show BlocksPost R RES w (.returned (.tuple #[.slice none 0 0, flt m5 8])) (w6.setCell ⟨Y, 2, none⟩ (.slice none 0 0)) from ⟨grown_in (grown_trans HSH.out.gr hg6) (grown_setCell' w6 Y 2 _) (fun g e => by cases e; exact hYg), by rw [← hP]; rfl⟩)
      clear HSH hP hg6 hb6 hm6
      unfold flt at *
      generalize ys.length = ny at *
      go_wp2_with (go_at_call 176; refine HA.mono ?_; rintro e w7 ⟨rfl, rfl⟩)
      rw [Exit.noGoto_ret]
      go_ret2
      exact HO.out
     | bad m5 =>
      rw [hx5] at hpost hP
      obtain rfl := hpost
      have HO := hid_in (show BlocksPost R RES w (.returned (.tuple #[.slice none 0 0, flt m5 1])) w6 from ⟨grown_trans HSH.out.gr hg6, by rw [← hP]; rfl⟩)
      clear HSH hP hg6
      unfold flt at *
      generalize ys.length = ny at *
      go_wp2
      rw [Exit.noGoto_ret]
      go_ret2
      exact HO.out
     | words m5 x5 xs5 rst5 =>
      rw [hx5] at hpost hP
      obtain ⟨a5, c5, r6, rfl, hr5, hz5, hb5, ho5⟩ := hpost
      obtain ⟨g5, rfl⟩ := row_form ho5
      have hsm5 := nextW_small _ _ _ _ _ _ hx5
      have hln5 := nextW_len _ _ _ _ _ _ hx5
      have HS6 := HSH.out.read hx5 hg6 hr5 hz5 hb5 ho5
      have hrl5 := HSH.out.n
      have HRW := hid_in HSH.out.box.lines
      have HR6 := hid_in hr5
      obtain ⟨gw, ow, ew, hw0⟩ := (own_has (Mem.head HS6.mem)).word 0 (by simp)
      cases ew
      simp only [List.getElem_cons_zero, Nat.add_zero] at hw0
      clear HSH hg6 ho5 hb5 hx5 hr5
      by_cases hend : x5 = [101, 110, 100] ∧ xs5 = []
      ·obtain ⟨rfl, rfl⟩ := hend
       have hPS : parseGo m5 (plainG gs ++ [⟨kx, kn, plainL ys⟩]) none rst5 = RES := by
        have h1 : (if (stepW (plainG gs) (some ⟨kx, kn, plainL ys⟩) [101, 110, 100] []).1 ≠ 0 then PRes.bad m5 (stepW (plainG gs) (some ⟨kx, kn, plainL ys⟩) [101, 110, 100] []).1 else parseGo m5 (stepW (plainG gs) (some ⟨kx, kn, plainL ys⟩) [101, 110, 100] []).2.1 (stepW (plainG gs) (some ⟨kx, kn, plainL ys⟩) [101, 110, 100] []).2.2 rst5) = RES := hP
        rw [stepW_end] at h1
        simpa using h1
       have HS7 := HS6.rows (Mem.tail HS6.mem)
       have hbx := open_box HS7.mem
       have q0 := cell_of_block hbx 0
       have q1 := cell_of_block hbx 1
       have q2 := cell_of_block hbx 2
       simp only [List.getElem?_toArray, List.getElem?_cons_zero, List.getElem?_cons_succ] at q0 q1 q2
       obtain ⟨i0, hi, hz0, hz1, hz2⟩ := info_parts infoBlock
       have b8 := (Below.refl w6.heap.size w6).alloc (Nat.le_refl _) (.cells #[.string kx, .string kn, .slice la ys.length lc] 64)
       have HS8 := HS7.below b8
       have hm3 : (w6.alloc (.cells #[.string kx, .string kn, .slice la ys.length lc] 64)).ownsRow w.heap.size 64 3 (.slice va ng vc) ng ((gs.map GAt.b).flatMap BAt.cells) := by
        have := Mem.head (open_done HS8.mem)
        rw [ENG.out] at this
        exact this
       have hrow := lit_has w6 #[.string kx, .string kn, .slice la ys.length lc] 64 3 rfl
       have hone : ∀ y ∈ [Value.string kx, Value.string kn, Value.slice la ys.length lc], y.oneCell' = true := by
        intro y hy
        simp only [List.mem_cons, List.not_mem_nil, or_false] at hy
        rcases hy with rfl | rfl | rfl <;> rfl
       have hsz8 : w.heap.size ≤ (w6.alloc (.cells #[.string kx, .string kn, .slice la ys.length lc] 64)).heap.size := HS8.gr.size
       have hgm5 : ng ≤ m5 := by omega
       have HS8H := hid_in HS8
       have HYS := hid_in (show (⟨kx, kn, .slice la ys.length lc, ys⟩ : GAt).sm from ⟨HNM.out, by have := HS8.n; have := HS8.big; simp only; omega, hys⟩)
       have HPS := hid_in hPS
       clear HS6 HS7 HS8 hPS hP hys hbx b8
       generalize hny : ys.length = ny at *
       clear hny
       simp only [List.length_nil, Nat.zero_add] at *
       go_wp2_with (at_builtin; refine wpList_append_has (by rfl) _ _ 22 (by rfl) w.heap.size 64 i0 _ 3 56 Tryz.underlying22 hi hz0 hz1 hz2 rfl (by decide) _ ng _ (by rfl) hm3 _ 1 _ (by rfl) hrow hone ?c3 ?c4 hsz8 ?_)
       case c3 => unfold maxLen; omega
       case c4 => omega
       intro ao' cap' w9 hown9 hg9 hv9
       have HS9 := HS8H.out.shut (bv' := .slice ao' (ng + 1) cap') (by rw [ENG.out, List.flatMap_append, List.flatMap_singleton]; exact hown9) hg9 (by first | exact hv9 | (rw [World.size_alloc]; exact hv9))
       have hms : rdLines R w9 < rdLines R wo := by rw [HS9.box.lines, HRL.out, HR6.out]; omega
       have HI := hid_in (show OutR R w N RES (.slice ao' (ng + 1) cap') w9 from ⟨gs ++ [⟨kx, kn, .slice la ny lc, ys⟩], r6, m5, HS9, by rw [plainG_snoc, HR6.out]; exact HPS.out, by rw [List.length_append, ENG.out]; simp only [List.length_cons, List.length_nil]; omega, fun b hb => by
        rcases List.mem_append.1 hb with hb | hb
        ·exact HGS.out b hb
        ·rw [List.mem_singleton.1 hb]; exact HYS.out⟩)
       have HMS := hid_in hms
       clear hm3 hrow hone hown9 hg9 hv9 HS9 hms HS8H q0 q1 q2
       go_wp2
       go_roundw
       case rel => exact HI.out
       case measure => exact HMS.out
      ·have hPS : (if lineFault (rulesOf kx) (plainL ys) ⟨keyOf x5, xs5⟩ ≠ 0 then PRes.bad m5 (lineFault (rulesOf kx) (plainL ys) ⟨keyOf x5, xs5⟩) else parseGo m5 (plainG gs) (some ⟨kx, kn, plainL ys ++ [⟨keyOf x5, xs5⟩]⟩) rst5) = RES := by
        have h1 : (if (stepW (plainG gs) (some ⟨kx, kn, plainL ys⟩) x5 xs5).1 ≠ 0 then PRes.bad m5 (stepW (plainG gs) (some ⟨kx, kn, plainL ys⟩) x5 xs5).1 else parseGo m5 (stepW (plainG gs) (some ⟨kx, kn, plainL ys⟩) x5 xs5).2.1 (stepW (plainG gs) (some ⟨kx, kn, plainL ys⟩) x5 xs5).2.2 rst5) = RES := hP
        rw [stepW_in hend] at h1
        exact h1
       clear hP
       by_cases hx0 : xs5.length = 0
       ·have hxe : (x5 == [101, 110, 100]) = false := by
         rw [beq_eq_false_iff_ne]
         intro e
         exact hend ⟨e, List.length_eq_zero_iff.1 hx0⟩
        obtain rfl := List.length_eq_zero_iff.1 hx0
        clear hx0 hend
        have HA : Calls Tryz.prog 176 #[.pointer (some ⟨R, 0, none⟩), .slice ra nl rc, .slice la ys.length lc, .slice (some ⟨g5, 0, none⟩) (([] : List (List UInt8)).length + 1) c5] w6 fun e w' => AddPost (rulesOf kx) w.heap.size (.slice la ys.length lc) (ys.map WAt.l) m5 x5 ([] : List (List UInt8)) (WAt.ta ⟨g5, c5, x5, ([] : List (List UInt8))⟩) c5 w6 e w' := by
         have := add_any (R := R) (B := w.heap.size) (m := m5) (g := g5) (wc := c5) (x := x5) (xs := ([] : List (List UInt8))) (ta := WAt.ta ⟨g5, c5, x5, ([] : List (List UInt8))⟩) (es := ys.map WAt.l) (ea := la) (ec := lc) HS6.box (open_rules (Mem.tail HS6.mem)) (by rw [HLR.out]; exact rulesOf_like _) (by rw [List.length_map]; exact Mem.head (open_lines (Mem.tail HS6.mem))) HS6.gr.size (fun z hz => by obtain ⟨y, hy, rfl⟩ := List.mem_map.1 hz; exact wat_in ((open_lines (Mem.tail HS6.mem)).1 y.r (List.mem_cons_of_mem _ (List.mem_map_of_mem hy)))) (by rw [List.length_map]; have := HS6.n; have := HS6.big; omega) (fun z hz => by obtain ⟨y, hy, rfl⟩ := List.mem_map.1 hz; exact Nat.le_trans (hys y hy).1 (by decide)) (own_has (Mem.head HS6.mem)) hsm5.2 hsm5.1 rfl (HST.out _ HS6.gr)
         rw [HLR.out, List.length_map] at this
         exact this
        have q2 := cell_of_block (open_box (Mem.tail HS6.mem)) 2
        simp only [List.getElem?_toArray, List.getElem?_cons_zero, List.getElem?_cons_succ] at q2
        have HS6H := hid_in HS6
        have HYS := hid_in hys
        have HSM := hid_in (show (⟨g5, c5, x5, ([] : List (List UInt8))⟩ : WAt).sm from hsm5)
        have HPS := hid_in hPS
        clear HS6 hys hsm5 hPS
        generalize hny : ys.length = ny at *
        simp only [List.length_nil, Nat.zero_add] at HA ⊢
        have ENY := hid_in hny
        clear hny
        go_wp2_with (go_at_call 176; refine HA.mono ?_)
        rintro e w7 hadd
        clear HA
        unfold AddPost at hadd
        rw [show (ys.map WAt.l).map LAt.plain = plainL ys from rfl] at hadd
        rcases hadd with ⟨hc, rfl, b7⟩ | ⟨hc, a7, c7, rfl, ho7, W1, b1, hg7, hv7⟩
        ·have hRES := HPS.out
         have hb7 := (b7.block Y (Array.getElem?_eq_some_iff.1 (open_box (Mem.tail HS6H.out.mem))).1).trans (open_box (Mem.tail HS6H.out.mem))
         have q7 := cell_of_block hb7 2
         have f7 := frozen_of_block hb7 2
         simp only [List.getElem?_toArray, List.getElem?_cons_zero, List.getElem?_cons_succ] at q7
         rw [if_pos hc] at hRES
         have hYg := (HS6H.out.rows (Mem.tail HS6H.out.mem)).Yge
         generalize lineFault (rulesOf kx) (plainL ys) ⟨keyOf x5, ([] : List (List UInt8))⟩ = cd at *
         have HO := hid_in (show BlocksPost R RES w (.returned (.tuple #[.slice none 0 0, flt m5 cd])) (w7.setCell ⟨Y, 2, none⟩ (.slice none 0 0)) from ⟨grown_in (grown_trans HS6H.out.gr (grown_of_below b7 _)) (grown_setCell' w7 Y 2 _) (fun g e => by cases e; exact hYg), by rw [← hRES]⟩)
         clear HPS HS6H hRES hc b7 hb7 q2
         unfold flt at *
         go_wp2
         rw [Exit.noGoto_ret]
         go_ret2
         exact HO.out
        ·have hRES := HPS.out
         rw [if_neg (by rw [hc]; simp)] at hRES
         rw [List.length_map, ENY.out] at ho7
         obtain ⟨hS8, hb7⟩ := HS6H.out.added (lv' := .slice a7 (ny + 1) c7) b1 (by rw [ENY.out]; exact ho7) hg7 (by rw [List.length_map, ENY.out] at hv7; exact hv7)
         have q7 := cell_of_block hb7 2
         have f7 := frozen_of_block hb7 2
         simp only [List.getElem?_toArray, List.getElem?_cons_zero, List.getElem?_cons_succ] at q7
         have hHS := hS8.box.lines
         have HI := hid_in (show InR R w N RES Y m2 kx kn (.slice va ng vc) (.slice ra nl rc) gs L (w7.setCell ⟨Y, 2, none⟩ (.slice a7 (ny + 1) c7)) from ⟨ys ++ [⟨g5, c5, x5, ([] : List (List UInt8))⟩], .slice a7 (ny + 1) c7, r6, m5, hS8, by rw [HR6.out]; rw [plainL_snoc]; exact hRES, ⟨by omega, by simp; have := ENY.out; omega⟩, fun y hy => by
          rcases List.mem_append.1 hy with hy | hy
          ·exact HYS.out y hy
          ·rw [List.mem_singleton.1 hy]; exact HSM.out⟩)
         have hms : rdLines R (w7.setCell ⟨Y, 2, none⟩ (.slice a7 (ny + 1) c7)) < rdLines R wr := by rw [hHS, HRW.out, HR6.out]; omega
         have HMS := hid_in hms
         clear HPS HS6H hRES hc hS8 hb7 ho7 hg7 hv7 b1 q2 hHS hms
         rw [List.length_map, ENY.out]
         go_wp2
         go_roundw
         case rel => exact ⟨rfl, HI.out⟩
         case measure => exact HMS.out
       ·have hxe : (((xs5.length : Int) + 1) == 1) = false := by rw [beq_eq_false_iff_ne]; omega
        have HA : Calls Tryz.prog 176 #[.pointer (some ⟨R, 0, none⟩), .slice ra nl rc, .slice la ys.length lc, .slice (some ⟨g5, 0, none⟩) (xs5.length + 1) c5] w6 fun e w' => AddPost (rulesOf kx) w.heap.size (.slice la ys.length lc) (ys.map WAt.l) m5 x5 xs5 (WAt.ta ⟨g5, c5, x5, xs5⟩) c5 w6 e w' := by
         have := add_any (R := R) (B := w.heap.size) (m := m5) (g := g5) (wc := c5) (x := x5) (xs := xs5) (ta := WAt.ta ⟨g5, c5, x5, xs5⟩) (es := ys.map WAt.l) (ea := la) (ec := lc) HS6.box (open_rules (Mem.tail HS6.mem)) (by rw [HLR.out]; exact rulesOf_like _) (by rw [List.length_map]; exact Mem.head (open_lines (Mem.tail HS6.mem))) HS6.gr.size (fun z hz => by obtain ⟨y, hy, rfl⟩ := List.mem_map.1 hz; exact wat_in ((open_lines (Mem.tail HS6.mem)).1 y.r (List.mem_cons_of_mem _ (List.mem_map_of_mem hy)))) (by rw [List.length_map]; have := HS6.n; have := HS6.big; omega) (fun z hz => by obtain ⟨y, hy, rfl⟩ := List.mem_map.1 hz; exact Nat.le_trans (hys y hy).1 (by decide)) (own_has (Mem.head HS6.mem)) hsm5.2 hsm5.1 rfl (HST.out _ HS6.gr)
         rw [HLR.out, List.length_map] at this
         exact this
        have q2 := cell_of_block (open_box (Mem.tail HS6.mem)) 2
        simp only [List.getElem?_toArray, List.getElem?_cons_zero, List.getElem?_cons_succ] at q2
        have HS6H := hid_in HS6
        have HYS := hid_in hys
        have HSM := hid_in (show (⟨g5, c5, x5, xs5⟩ : WAt).sm from hsm5)
        have HPS := hid_in hPS
        clear HS6 hys hsm5 hPS
        generalize hny : ys.length = ny at *
        generalize hnx : xs5.length = nx at *
        have ENY := hid_in hny
        clear hny
        go_wp2_with (go_at_call 176; refine HA.mono ?_)
        rintro e w7 hadd
        clear HA
        unfold AddPost at hadd
        rw [show (ys.map WAt.l).map LAt.plain = plainL ys from rfl] at hadd
        rcases hadd with ⟨hc, rfl, b7⟩ | ⟨hc, a7, c7, rfl, ho7, W1, b1, hg7, hv7⟩
        ·have hRES := HPS.out
         have hb7 := (b7.block Y (Array.getElem?_eq_some_iff.1 (open_box (Mem.tail HS6H.out.mem))).1).trans (open_box (Mem.tail HS6H.out.mem))
         have q7 := cell_of_block hb7 2
         have f7 := frozen_of_block hb7 2
         simp only [List.getElem?_toArray, List.getElem?_cons_zero, List.getElem?_cons_succ] at q7
         rw [if_pos hc] at hRES
         have hYg := (HS6H.out.rows (Mem.tail HS6H.out.mem)).Yge
         generalize lineFault (rulesOf kx) (plainL ys) ⟨keyOf x5, xs5⟩ = cd at *
         have HO := hid_in (show BlocksPost R RES w (.returned (.tuple #[.slice none 0 0, flt m5 cd])) (w7.setCell ⟨Y, 2, none⟩ (.slice none 0 0)) from ⟨grown_in (grown_trans HS6H.out.gr (grown_of_below b7 _)) (grown_setCell' w7 Y 2 _) (fun g e => by cases e; exact hYg), by rw [← hRES]⟩)
         clear HPS HS6H hRES hc b7 hb7 q2
         unfold flt at *
         go_wp2
         rw [Exit.noGoto_ret]
         go_ret2
         exact HO.out
        ·have hRES := HPS.out
         rw [if_neg (by rw [hc]; simp)] at hRES
         rw [List.length_map, ENY.out] at ho7
         obtain ⟨hS8, hb7⟩ := HS6H.out.added (lv' := .slice a7 (ny + 1) c7) b1 (by rw [ENY.out]; exact ho7) hg7 (by rw [List.length_map, ENY.out] at hv7; exact hv7)
         have q7 := cell_of_block hb7 2
         have f7 := frozen_of_block hb7 2
         simp only [List.getElem?_toArray, List.getElem?_cons_zero, List.getElem?_cons_succ] at q7
         have hHS := hS8.box.lines
         have HI := hid_in (show InR R w N RES Y m2 kx kn (.slice va ng vc) (.slice ra nl rc) gs L (w7.setCell ⟨Y, 2, none⟩ (.slice a7 (ny + 1) c7)) from ⟨ys ++ [⟨g5, c5, x5, xs5⟩], .slice a7 (ny + 1) c7, r6, m5, hS8, by rw [HR6.out]; rw [plainL_snoc]; exact hRES, ⟨by omega, by simp; have := ENY.out; omega⟩, fun y hy => by
          rcases List.mem_append.1 hy with hy | hy
          ·exact HYS.out y hy
          ·rw [List.mem_singleton.1 hy]; exact HSM.out⟩)
         have hms : rdLines R (w7.setCell ⟨Y, 2, none⟩ (.slice a7 (ny + 1) c7)) < rdLines R wr := by rw [hHS, HRW.out, HR6.out]; omega
         have HMS := hid_in hms
         clear HPS HS6H hRES hc hS8 hb7 ho7 hg7 hv7 b1 q2 hHS hms
         rw [List.length_map, ENY.out]
         go_wp2
         go_roundw
         case rel => exact ⟨rfl, HI.out⟩
         case measure => exact HMS.out
end Go.Proofs.YtpdahhnjhggocabGreatDoor
