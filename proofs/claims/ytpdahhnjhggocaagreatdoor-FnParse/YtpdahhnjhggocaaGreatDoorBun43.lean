import Derived.Test.YtpdahhnjhggocaaGreatDoorBun42
import Derived.Test.YtpdahhnjhggocaaGreatDoorBun16
import Derived.Test.YtpdahhnjhggocaaGreatDoorBun14
namespace Go.Proofs.YtpdahhnjhggocaaGreatDoor
open Go.RowKit
def blocksLeft (X : Nat) (W : World) : Nat := match W.cell? ⟨X, 0, none⟩ with
  | some (.slice _ n _) => n
  | _ => 0
def linesLeft (Y : Nat) (W : World) : Nat := match W.cell? ⟨Y, 2, none⟩ with
  | some (.slice _ n _) => n
  | _ => 0
theorem blocksLeft_of {X n c : Nat} {a : Option Addr} {W : World} (h : W.cell? ⟨X, 0, none⟩ = some (.slice a n c)) : blocksLeft X W = n := by unfold blocksLeft; rw [h]
theorem linesLeft_of {Y n c : Nat} {a : Option Addr} {W : World} (h : W.cell? ⟨Y, 2, none⟩ = some (.slice a n c)) : linesLeft Y W = n := by unfold linesLeft; rw [h]
def LineS (x : LAt) : Prop := x.key.size ≤ 20 ∧ x.ws.length ≤ 3 ∧ ∀ y ∈ x.ws, y.length ≤ 200
theorem lines_S {b : BAt} (h : SmallB b) (hk : SmallK b) : ∀ x ∈ b.ls, LineS x := fun x hx => ⟨hk.2 x hx, h.2.2 x hx⟩
def LooO (B p k : Nat) (w1 : World) (X : Nat) (o : Value) (W : World) : Prop := ∃ (t : ByteArray) (kk : Nat) (v : Value) (bs : List BAt), o = .string t ∧ bs.length ≤ 60 ∧ t.size + bs.length * 13000 ≤ 780000 ∧ kk + bs.length * 70 ≤ k + 4200 ∧ (∀ b ∈ bs, SmallB b ∧ SmallK b) ∧ NrS B p w1 X kk v bs W
def LooL (B p K N : Nat) (w1 : World) (X Y : Nat) (v : Value) (bs : List BAt) (kind name : ByteArray) (o : Value) (W : World) : Prop := ∃ (t : ByteArray) (kk : Nat) (bv : Value) (ls : List LAt), o = .string t ∧ ls.length ≤ 7 ∧ t.size + ls.length * 1845 ≤ N ∧ kk + ls.length * 9 ≤ K ∧ (∀ x ∈ ls, LineS x) ∧ NrS B p w1 X kk v bs W ∧ NrY w1.heap.size X Y kind name bv ls W
theorem NrY.turnS {c S Y : Nat} {bk bn : ByteArray} {bv : Value} {ls : List LAt} {W W' : World} (h : NrY c S Y bk bn bv ls W) (hg : W.grownBy W' (some S)) : NrY c S Y bk bn bv ls W' :=
  ⟨(hg.block Y h.lt (by intro e; exact h.YS (Option.some.inj e))).trans h.box, h.cY, h.YS, h.free.grown hg (.inr (by simp)), h.small⟩
theorem wordL_len' (l : List UInt8) : (wordL l).length ≤ 3 * l.length + 2 := by
  unfold wordL
  split
  · omega
  · have := flat_len l
    simp only [quoteL, List.length_append, List.length_cons, List.length_nil]; omega
theorem NrS.start {B p k n c : Nat} {a : Option Addr} {w w2 : World} {v : Value} {bs : List BAt} (h : Rd B w p k) (b2 : Below (w.heap.size + 1) (w.alloc (.cells #[v] 25)) w2) (ho : BlocksOwn (w.heap.size + 1) w2 (.slice a n c) bs) (hs : ∀ b ∈ bs, SmallB b) : NrS B p (w.alloc (.cells #[v] 25)) w2.heap.size k (.slice a n c) bs (w2.alloc (.cells #[.slice a n c] 25)) := by
  have hz := b2.size
  have s1 : (w.alloc (.cells #[v] 25)).heap.size = w.heap.size + 1 := by simp
  have hp := h.lt
  have b1 := (Below.refl w.heap.size w).alloc (Nat.le_refl _) (.cells #[v] 25)
  have b3 := (Below.refl w2.heap.size w2).alloc (Nat.le_refl _) (.cells #[.slice a n c] 25)
  have b2' : Below (w.alloc (.cells #[v] 25)).heap.size (w.alloc (.cells #[v] 25)) w2 := by rw [s1]; exact b2
  exact ⟨((h.below b1).below b2').below b3, grown_of_below (b2'.trans (b3.mono b2'.size)) _, alloc_here _ _, b2'.size, by omega, ho.bin.below b3, fun q hq => ho.far (by omega), ⟨FarV.of_lt ho.bin.1 (by decide) (Nat.le_refl _), fun x hx => LinesIn.fresh (ho.bin.2 x hx) (Nat.le_refl _)⟩, fun b hb => (hs b hb).x⟩
theorem tab3 {U : World} {tb z M : Nat} {a b c : ByteArray} (h : U.heap[tb]? = some (.cells #[.string a, .string b, .string c] 9 (0, 0))) (hz : z < 3) (ha : a.size ≤ M) (hb : b.size ≤ M) (hc : c.size ≤ M) : ∃ u : ByteArray, u.size ≤ M ∧ U.cell? ⟨tb, z, none⟩ = some (.string u) := by
  have h0 := cell_of_block h z
  match z, hz, h0 with
  | 0, _, h0 => exact ⟨a, ha, h0⟩
  | 1, _, h0 => exact ⟨b, hb, h0⟩
  | 2, _, h0 => exact ⟨c, hc, h0⟩
theorem loose6 {B p X Y kk n c : Nat} {w1 wk u : World} {v0 bv : Value} {bs bs' : List BAt} {rk rn : ByteArray} {ls : List LAt} {a : Option Addr} (hS : NrS B p w1 X kk v0 bs wk) (hY : NrY w1.heap.size X Y rk rn bv ls wk) (hF : BlocksFar Y v0 bs) (hb : Below wk.heap.size wk u) (ho : u.ownsRow wk.heap.size 46 3 (.slice a n c) bs'.length (bs'.flatMap BAt.cells)) (hsub : ∀ x ∈ bs', x ∈ bs) : NrS B p w1 X kk (.slice a n c) bs' (u.setCell ⟨X, 0, none⟩ (.slice a n c)) ∧ NrY w1.heap.size X Y rk rn bv ls (u.setCell ⟨X, 0, none⟩ (.slice a n c)) ∧ BlocksFar Y (.slice a n c) bs' := by
  have h5 := hS.below hb
  have hX := hS.Slt
  have hYl := hY.lt
  have hz := hS.gr.size
  have e := setCell_eq_setRow u X 0 _ _ _ (.slice a n c) h5.box
  have gs := grown_setRow u X #[.slice a n c]
  have e' : u.setCell ⟨X, 0, none⟩ (.slice a n c) = u.setRow X #[.slice a n c] := by rw [e]; rfl
  rw [e']
  refine ⟨h5.put ⟨own_has ho, fun x hx => (hS.bin.2 x (hsub x hx)).below hb⟩ (fun q hq => ⟨FarV.above ho (by omega), fun x hx => (hS.abv q hq).2 x (hsub x hx)⟩) ⟨FarV.above ho hX, fun x hx => hS.farS.2 x (hsub x hx)⟩ (fun x hx => hS.small x (hsub x hx)), (hY.below hb).turnS gs, ⟨FarV.above ho hYl, fun x hx => hF.2 x (hsub x hx)⟩⟩
theorem loose19 {B p X Y kk n c : Nat} {w1 wk u : World} {v bv : Value} {bs : List BAt} {rk rn : ByteArray} {ls ls' : List LAt} {a : Option Addr} (hS : NrS B p w1 X kk v bs wk) (hY : NrY w1.heap.size X Y rk rn bv ls wk) (hF : BlocksFar Y v bs) (hb : Below wk.heap.size wk u) (ho : u.ownsRow wk.heap.size 115 2 (.slice a n c) ls'.length (ls'.flatMap LAt.cells)) (hsub : ∀ x ∈ ls', x ∈ ls) (hlen : ls'.length ≤ ls.length) : NrS B p w1 X kk v bs (u.setCell ⟨Y, 2, none⟩ (.slice a n c)) ∧ NrY w1.heap.size X Y rk rn (.slice a n c) ls' (u.setCell ⟨Y, 2, none⟩ (.slice a n c)) := by
  have h5 := hS.below hb
  have y5 := hY.below hb
  have hX := hS.Slt
  have hYl := hY.lt
  have hz := hS.gr.size
  have gs := grown_setCell' u Y 2 (.slice a n c)
  refine ⟨h5.turn gs hY.cY hY.YS hF, y5.put gs (by rw [heap_setCell_same u Y 2 _ _ _ y5.box]; rfl) ⟨⟨own_has ho, fun x hx => (hY.free.1.2 x (hsub x hx)).below hb⟩, fun q hq => ⟨FarV.above ho ?_, fun x hx => (hY.free.2.1 q hq).2 x (hsub x hx)⟩, fun q hq => ⟨FarV.above ho (by omega), fun x hx => (hY.free.2.2 q hq).2 x (hsub x hx)⟩⟩ ⟨hY.small.1, Nat.le_trans hlen hY.small.2.1, fun x hx => hY.small.2.2 x (hsub x hx)⟩⟩
  simp only [List.mem_cons, List.not_mem_nil, or_false] at hq
  rcases hq with rfl | rfl <;> omega
set_option maxHeartbeats 8000000 in
set_option maxRecDepth 100000 in
theorem l3Loose_any (B p k : Nat) {v : Value} {bs : List BAt} (w : World) (h : Rd B w p k) (hk : k ≤ 500000) (hin : BlocksIn w v bs) (hl : bs.length ≤ 60) (hs : ∀ b ∈ bs, SmallB b) (hsk : ∀ b ∈ bs, SmallK b) : Calls Tryz.prog 77 #[.pointer (some ⟨p, 0, none⟩), .agg #[v]] w fun e w' => Drawn 780000 B p w e w' k 4200 := by
  obtain ⟨va, vc, rfl⟩ := hin.1.form
  have hp := h.lt
  have bx := (Below.refl w.heap.size w).alloc (Nat.le_refl _) (.cells #[.slice va bs.length vc] 25)
  have s1 : (w.alloc (.cells #[.slice va bs.length vc] 25)).heap.size = w.heap.size + 1 := by simp
  have z1 := one_box (w := w) (cs := #[.slice va bs.length vc]) (T := 25) 0
  simp only [List.getElem?_toArray, List.getElem?_cons_zero] at z1
  have HC := l3Copy_any (hin.below bx) (small_blocks (by omega) hs)
  rw [s1] at HC
  have HR := hid_in h
  have HS := hid_in (And.intro hs hsk)
  have HL := hid_in (show ∀ l : List BAt, l.map BAt.plain = bs.map BAt.plain → l.length ≤ 60 from fun l e => by have := congrArg List.length e; simp only [List.length_map] at this; omega)
  clear h hin hs hsk bx hl
  generalize bs.length = n0 at *
  go_enter Tryz.func77, Tryz.ntmps77
  go_wp2_with (go_at_call 55; refine HC.mono ?_)
  rintro e w2 ⟨v2, bs2, rfl, hp2, o2, b2⟩
  obtain ⟨a2, c2, rfl, _⟩ := own_form o2.row
  have hW0 := hid_in (grown_but (World.grownBy_alloc w (.cells #[.slice va n0 vc] 25) none) (some p))
  have HN := hid_in (NrS.start HR.out b2 o2 (smallB_same HS.out.1 hp2))
  have HI := hid_in (show ∀ b ∈ bs2, SmallB b ∧ SmallK b from fun b hb => ⟨smallB_same HS.out.1 hp2 b hb, smallK_same HS.out.2 hp2 b hb⟩)
  have hl2 : bs2.length ≤ 60 := HL.out bs2 hp2
  have hz2 := b2.size
  rw [s1] at hz2
  clear HC hp2 o2 b2 z1
  generalize hw1 : w.alloc (.cells #[.slice va n0 vc] 25) = w1 at *
  generalize hX : w2.heap.size = X at *
  clear hw1
  have HST := hid_in (show LooO B p k w1 X (.string ⟨#[]⟩) (w2.alloc (.cells #[.slice a2 bs2.length c2] 25)) from ⟨⟨#[]⟩, k, _, bs2, rfl, hl2, by show 0 + _ ≤ _; omega, by omega, HI.out, HN.out⟩)
  clear HN HI hl2
  generalize bs2.length = n2 at *
  go_wp2
  go_loopw [5] (fun o wr => LooO B p k w1 X o wr) (fun _ W => blocksLeft X W)
  case atStart => exact HST.out
  case round =>
    clear HST
    obtain ⟨t, kk, v, bs, rfl, hb60, ht, hkk, hsm, HS⟩ := hrel
    obtain ⟨la, lc, rfl⟩ := HS.bin.1.form
    have c0 := cell_of_block HS.box 0
    simp only [List.getElem?_toArray, List.getElem?_cons_zero] at c0
    have hms := hid_in (blocksLeft_of c0)
    by_cases hn : bs.length = 0
    · have hn' : ¬ ((0 : Int) < (bs.length : Int)) := by omega
      have hg := HS.gr
      have HO := hid_in (show Drawn 780000 B p w (.returned (.string t)) wr k 4200 from ⟨t, kk, by omega, by omega, rfl, HS.rd, grown_trans hW0.out hg⟩)
      clear HS hsm hg
      generalize bs.length = n at *
      go_wp2
      go_ret
      exact HO.out
    · have hn' : ((0 : Int) < (bs.length : Int)) := by omega
      have HP := pick_any B p kk bs.length wr HS.rd (by omega) (by omega) (by omega)
      have HSH := hid_in HS
      have HSM := hid_in hsm
      clear HS hsm
      generalize hnn : bs.length = n at *
      have enn := hid_in hnn
      clear hnn
      go_wp2_with (go_at_call 44; refine HP.mono ?_)
      rintro e w3 ⟨y, hy, rfl, hr3, hg3⟩
      have HS3 := HSH.out.grown hg3 hr3
      obtain ⟨D, r, T, ebs, hD⟩ := split1 bs y (by have := enn.out; omega)
      have h6 := HS3.bin
      have hrm : r ∈ bs := by rw [ebs]; simp
      have hlr := h6.2 r hrm
      have hrow := h6.1
      rw [ebs] at hrow
      obtain ⟨b0, off, ela, d0, d1, d2⟩ := hrow.block
      subst ela
      obtain ⟨ra, rc, er⟩ := HasRow.form hlr.1
      rw [er] at d2
      simp only [hD] at d0 d1 d2
      have c3 := cell_of_block HS3.box 0
      simp only [List.getElem?_toArray, List.getElem?_cons_zero] at c3
      have y0 : (0 : Int) ≤ (y : Int) := by omega
      have y1 : (y : Int) < (n : Int) := by omega
      have hY1 := HS3.gr.size
      have hY2 := HS3.Slt
      have bY := (Below.refl w3.heap.size w3).alloc (Nat.le_refl _) (.cells #[.string r.kind, .string r.name, .slice ra r.ls.length rc] 46)
      have HS4 := hid_in (HS3.below bY)
      have hlr : LinesIn w3 r.v r.ls := hlr
      rw [er] at hlr
      have HY4 := hid_in (show NrY w1.heap.size X w3.heap.size r.kind r.name (.slice ra r.ls.length rc) r.ls (w3.alloc (.cells #[.string r.kind, .string r.name, .slice ra r.ls.length rc] 46)) from ⟨alloc_here _ _, hY1, by omega, ⟨LinesIn.below hlr bY, fun q hq => by
        simp only [List.mem_cons, List.not_mem_nil, or_false] at hq
        rcases hq with rfl | rfl
        · have := HS3.farS.2 r hrm; rw [er] at this; exact this
        · exact LinesIn.fresh hlr (Nat.le_refl _), fun q hq => by have := (HS3.abv q hq).2 r hrm; rw [er] at this; exact this⟩, (HSM.out r hrm).1.x⟩)
      have HFY := hid_in (show BlocksFar w3.heap.size (.slice (some ⟨b0, off, none⟩) n lc) bs from ⟨by have := FarV.of_lt HS3.bin.1 (by decide) (Nat.le_refl w3.heap.size); rw [enn.out] at this; rw [enn.out]; exact this, fun x hx => LinesIn.fresh (HS3.bin.2 x hx) (Nat.le_refl _)⟩)
      have HRL := hid_in (lines_S (HSM.out r hrm).1 (HSM.out r hrm).2)
      have HRB := hid_in (HSM.out r hrm)
      have EBS := hid_in ebs
      have ED := hid_in hD
      have hkd : r.kind.size ≤ 20 := (HSM.out r hrm).2.1
      have hnm : r.name.size ≤ 30 := (HSM.out r hrm).1.1
      have hr7 : r.ls.length ≤ 7 := (HSM.out r hrm).1.2.1
      clear HP HSH hr3 hg3 HS3 h6 hrm hlr hrow er ebs hD bY
      generalize r.kind = rk at *
      generalize r.name = rn at *
      generalize hrl : r.ls.length = nr at *
      have erl := hid_in hrl
      clear hrl
      go_upto_region 6 with fail
      generalize hwk : w3.alloc (.cells #[.string rk, .string rn, .slice ra nr rc] 46) = wk at *
      have ewk := hid_in hwk
      generalize hYY : w3.heap.size = Y at *
      have c6 := cell_of_block HS4.out.box 0
      simp only [List.getElem?_toArray, List.getElem?_cons_zero] at c6
      have hbl := hid_in (show HasRow wk (.slice (some ⟨b0, off, none⟩) n lc) n 3 ((D ++ r :: T).flatMap BAt.cells) from by have := HS4.out.bin.1; rw [EBS.out] at this; have e := enn.out; rw [EBS.out] at e; rw [e] at this; exact this)
      have hlc : n ≤ lc := hbl.out.cap.1
      clear d0 d1 d2 c3 c0 hwk
      generalize (some ⟨b0, off, none⟩ : Option Addr) = la at *
      have q1 : (0 : Int) ≤ (y : Int) := by omega
      have q2 : (y : Int) ≤ (n : Int) := by omega
      have q3 : (n : Int) ≤ (lc : Int) := by omega
      have q4 : (y : Int) ≤ (lc : Int) := by omega
      have q5 : (0 : Int) ≤ (y : Int) + 1 := by omega
      have q6 : (y : Int) + 1 ≤ (n : Int) := by omega
      have q7 : IntKind.i64.wrap ((y : Int) + 1) = (y : Int) + 1 := by rw [IntKind.wrap_i64]; omega
      have hS0 : wk.drew.cell? ⟨X, 0, none⟩ = some (.slice la n lc) := c6
      have s0 := fun p : { W : World // W.cell? ⟨X, 0, none⟩ = some (.slice la n lc) } => p.2
      letI : Inhabited { W : World // W.cell? ⟨X, 0, none⟩ = some (.slice la n lc) } := ⟨⟨wk.drew, hS0⟩⟩
      refine wp_region_hold (S := fun W => W.cell? ⟨X, 0, none⟩ = some (.slice la n lc)) 13 14 (by kernel_rfl) rfl ?_
      refine wpHold_mask [false, true, true, true, true, false, true, true, true, true, true, false, false, false] 5 rfl (by kernel_rfl) hS0 ?_
      simp only [maskL_t, maskL_f, maskL_n]
      iterate 9 (refine wpReads_step (fun K hK => ?_); go_simp; refine hK _ ?_; clear hK K)
      refine wpReads_nil ?_
      have hDrow := hid_in (show HasRow wk (.slice la y lc) y 3 (D.flatMap BAt.cells) from by
        have h2 := hbl.out.take y (by omega)
        rw [List.flatMap_append, ← ED.out, ← rowF_len BAt.cells 3 BAt.len D, List.take_left] at h2
        rw [← ED.out]; exact h2)
      have hTrow := hid_in (show HasRow wk (.slice (if lc = y + 1 then la else la.map (fun a => a.add ((y + 1) * 3))) (n - (y + 1)) (lc - (y + 1))) (n - (y + 1)) 3 (T.flatMap BAt.cells) from by
        have h2 := hbl.out.drop (y + 1) (by omega)
        rw [show (D ++ r :: T).flatMap BAt.cells = (D ++ [r]).flatMap BAt.cells ++ T.flatMap BAt.cells by rw [← List.flatMap_append, List.append_assoc]; rfl, List.drop_left' (by rw [rowF_len BAt.cells 3 BAt.len, List.length_append, ED.out]; rfl)] at h2
        exact h2)
      have hone := hid_in (show ∀ z ∈ bs, ∃ a n c, z.v = .slice a n c from fun z hz => by obtain ⟨a, c, e⟩ := HasRow.form (HS4.out.bin.2 z hz).1; exact ⟨a, _, c, e⟩)
      have hD1 := hid_in (bcells_one (bs := D) (fun z hz => hone.out z (by rw [EBS.out]; simp [hz])))
      have hT1 := hid_in (bcells_one (bs := T) (fun z hz => hone.out z (by rw [EBS.out]; simp [hz])))
      have hTl : T.length = n - (y + 1) := by have e := enn.out; rw [EBS.out] at e; simp only [List.length_append, List.length_cons, ED.out] at e; omega
      obtain ⟨i0, hi, hi0, hi1, hi2⟩ := info_parts infoBlock
      generalize (if lc = y + 1 then la else la.map (fun a => a.add ((y + 1) * 3))) = laT at hTrow ⊢
      have hKS := hid_in (show ∀ u, Below wk.heap.size wk u → u.cell? ⟨X, 0, none⟩ = some (.slice la n lc) from fun u hu => (hu.cell (World.block_lt_of_cell? wk _ c6)).trans c6)
      refine wpHold_branch (f := 4) (rs := [0]) (by kernel_rfl) (by simp) ?_
      refine AllHold.cons rfl (by decide) (fun K hK => ?_) AllHold.nil
      go_simp
      have bA : Below wk.heap.size wk (wk.alloc (.cells #[] 46)).drew := ((Below.refl wk.heap.size wk).alloc (Nat.le_refl _) (.cells #[] 46)).drew
      have oA : (wk.alloc (.cells #[] 46)).drew.ownsRow wk.heap.size 46 3 (.slice (some ⟨wk.heap.size, 0, none⟩) 0 0) 0 [] := World.ownsRow_lit (base := wk.heap.size) (e := 46) (size := 3) wk #[] 0 (Nat.le_refl _) (by decide) rfl
      refine hK.out _ _ (hKS.out _ bA) ?_
      clear hK K
      refine wpHold_branch (f := 3) (rs := [5]) (by kernel_rfl) (by simp) ?_
      refine AllHold.cons rfl (by decide) (fun K hK => ?_) AllHold.nil
      refine step_append_has rfl _ _ 23 rfl wk.heap.size 46 i0 _ 3 56 Tryz.underlying23 hi hi0 hi1 hi2 rfl (by decide) _ 0 _ rfl oA _ y _ rfl (hDrow.out.below bA) hD1.out (by unfold maxLen; omega) (by omega) bA.size ?_
      intro ao5 c5 u5 own5 hg5 _
      simp only [Nat.zero_add, List.nil_append] at own5 ⊢
      have b5 := bA.grown hg5 bA.size (fun q hq => by cases hq; exact Nat.le_refl _)
      refine hK.out _ _ (hKS.out _ b5) ?_
      clear hK K
      refine wpHold_branch (f := 2) (rs := [11]) (by kernel_rfl) (by simp) ?_
      refine AllHold.cons rfl (by decide) (fun K hK => ?_) AllHold.nil
      have hbase5 : ∀ q, (Value.slice ao5 y c5).ownBlock = some q → wk.heap.size ≤ q := fun q hq => (own5.lt q hq).1
      refine step_append_has rfl _ _ 23 rfl wk.heap.size 46 i0 _ 3 56 Tryz.underlying23 hi hi0 hi1 hi2 rfl (by decide) _ y _ rfl own5 _ (n - (y + 1)) _ rfl (hTrow.out.below b5) hT1.out (by unfold maxLen; omega) (by omega) b5.size ?_
      intro ao9 c9 u9 own9 hg9 _
      have b9 := b5.grown hg9 b5.size hbase5
      refine hK.out _ _ (hKS.out _ b9) ?_
      clear hK K own5 hg5 hg9 hbase5 b5 bA oA
      refine wpHold_branch (f := 1) (rs := [12]) (by kernel_rfl) (by simp) ?_
      refine AllHold.cons rfl (by decide) (fun K hK => ?_) AllHold.nil
      go_simp
      refine hK.out _ _ (hKS.out _ b9) ?_
      clear hK K
      have z9 := (HS4.out.below b9).box
      have m0 := cell_of_block z9 0
      have fr0 := frozen_of_block z9 0
      simp only [List.getElem?_toArray, List.getElem?_cons_zero] at m0
      have hN9 : y + (n - (y + 1)) = n - 1 := by omega
      have hDT : (D ++ T).length = n - 1 := by rw [List.length_append, ED.out, hTl]; exact hN9
      have HL6 := loose6 (bs' := D ++ T) (n := n - 1) HS4.out HY4.out HFY.out b9 (by rw [List.flatMap_append, hDT]; rw [hN9] at own9; exact own9) (fun x hx => by rw [EBS.out]; rcases List.mem_append.1 hx with hx | hx <;> simp [hx])
      rw [hN9]
      have HL6H := hid_in HL6
      have HSM6 := hid_in (show ∀ b ∈ D ++ T, SmallB b ∧ SmallK b from fun b hb => HSM.out b (by rw [EBS.out]; rcases List.mem_append.1 hb with hx | hx <;> simp [hx]))
      have hDT' := hid_in hDT
      clear own9 HL6 hDrow hTrow hone hD1 hT1 hbl hKS HS4 HY4 HFY hN9 hDT EBS ED enn hTl
      generalize hmm : n - 1 = m at *
      have hmn : m + 1 = n := by omega
      clear hmm
      refine wpHold_last (by kernel_rfl) rfl (by kernel_rfl) ?_
      intro K hK
      go_simp
      refine hK.out _ _ (NoPanic.normal ?_)
      clear hK K
      generalize hu6 : u9.setCell ⟨X, 0, none⟩ (.slice ao9 m c9) = w6 at *
      clear hu6
      go_upto_region 7 with fail
      go_cut [5] from 41 to 59 (fun o wx => ∃ t9 : ByteArray, o = .string t9 ∧ t9.size ≤ t.size + 67 ∧ Rd B wx p (kk + 1 + 1 + 1) ∧ w6.grownBy wx (some p))
      case first =>
        have k0 := cell_of_block HL6H.out.2.1.box 0
        have k1 := cell_of_block HL6H.out.2.1.box 1
        simp only [List.getElem?_toArray, List.getElem?_cons_zero, List.getElem?_cons_succ] at k0 k1
        have hp1 := HL6H.out.1.plt
        have hKS := hid_in (show ∀ W, w6.grownBy W (some p) → W.cell? ⟨Y, 0, none⟩ = some (.string rk) ∧ W.cell? ⟨Y, 1, none⟩ = some (.string rn) from fun W hg => by
          have hb := (HL6H.out.2.1.grown hg hp1).box
          have e0 := cell_of_block hb 0
          have e1 := cell_of_block hb 1
          simp only [List.getElem?_toArray, List.getElem?_cons_zero, List.getElem?_cons_succ] at e0 e1
          exact ⟨e0, e1⟩)
        have G0 : w6.grownBy w6.drew (some p) := grown_of_below (Below.refl _ _).drew _
        have R0 : Rd B w6.drew p (kk + 1) := HL6H.out.1.rd.below (Below.refl _ _).drew
        have ht7 : t.size ≤ 780000 := by omega
        have s0 := fun p : { W : World // W.cell? ⟨Y, 0, none⟩ = some (.string rk) ∧ W.cell? ⟨Y, 1, none⟩ = some (.string rn) } => p.2.1
        have s1 := fun p : { W : World // W.cell? ⟨Y, 0, none⟩ = some (.string rk) ∧ W.cell? ⟨Y, 1, none⟩ = some (.string rn) } => p.2.2
        letI : Inhabited { W : World // W.cell? ⟨Y, 0, none⟩ = some (.string rk) ∧ W.cell? ⟨Y, 1, none⟩ = some (.string rn) } := ⟨⟨w6.drew, hKS.out _ G0⟩⟩
        refine wp_region_hold (S := fun W => W.cell? ⟨Y, 0, none⟩ = some (.string rk) ∧ W.cell? ⟨Y, 1, none⟩ = some (.string rn)) 19 20 (by kernel_rfl) rfl ?_
        refine wpHold_mask [true, true, false, false, false, true, true, false, false, true, true, false, false, true, false, false, false, false, false, false] 13 rfl (by kernel_rfl) (hKS.out _ G0) ?_
        simp only [maskL_t, maskL_f, maskL_n]
        iterate 7 (refine wpReads_step (fun K hK => ?_); go_simp; refine hK _ ?_; clear hK K)
        refine wpReads_nil ?_
        clear s0 s1 k0 k1
        refine wpHold_branch (f := 12) (rs := [2, 12]) (by kernel_rfl) (by simp) ?_
        refine AllHold.cons rfl (by decide) (fun K hK => ?wayA) (AllHold.cons rfl (by decide) (fun K hK => ?wayB) AllHold.nil)
        case' wayA =>
          go_simp
          go_wp2_with (go_at_call 44; refine (pick_any B p (kk + 1) 3 _ R0 (by omega) (by omega) (by omega)).mono ?_; rintro e U1 ⟨x1, hx1, rfl, R1, gx1⟩)
          have G1 := grown_trans G0 gx1
          refine hK.out _ _ (hKS.out _ G1) ?_
          clear hK K
          refine wpHold_branch (f := 11) (rs := [3, 12]) (by kernel_rfl) (by simp) ?_
          refine AllHold.cons rfl (by decide) (fun K hK => ?wayAa) (AllHold.cons rfl (by decide) (fun K hK => ?wayAb) AllHold.nil)
        case' wayAa =>
          go_simp
          go_wp2_with (go_at_call 80; refine (l1Many_any ⟨#[32]⟩ x1 _ (by decide) (by omega)).mono ?_; rintro e U1 ⟨s1, hs1, rfl, rfl⟩)
          have hs1' : s1.size ≤ 2 := by rw [hs1]; show 1 * x1 ≤ 2; omega
          clear hs1
          refine hK.out _ _ (hKS.out _ G1) ?_
          clear hK K
          have hc1 : ¬ 9223372036854775807 < t.size + s1.size := by omega
          have hc2 : ¬ 9223372036854775807 < t.size + s1.size + rk.size := by omega
          have hc3 : ¬ 9223372036854775807 < t.size + s1.size + rk.size + 2 := by omega
          have hc4 : ¬ 9223372036854775807 < t.size + s1.size + rk.size + 2 + rn.size := by omega
          refine wpHold_mask [false, false, false, false, true, false, false, true, true, false, false, true, false, false, false, false, false, false, false, false] 7 rfl (by kernel_rfl) (hKS.out _ G1) ?_
          simp only [maskL_t, maskL_f, maskL_n]
          iterate 4 (refine wpReads_step (fun K hK => ?_); go_simp; refine hK _ ?_; clear hK K)
          refine wpReads_nil ?_
          refine wpHold_branch (f := 6) (rs := [12, 14]) (by kernel_rfl) (by simp) ?_
          refine AllHold.cons rfl (by decide) (fun K hK => ?wayAa1) (AllHold.cons rfl (by decide) (fun K hK => ?wayAa2) AllHold.nil)
        case' wayAa1 =>
          go_simp
          have TAB := alloc_here U1 (.cells #[.string ⟨#[]⟩, .string ⟨#[32, 35, 32, 97, 32, 99, 111, 109, 109, 101, 110, 116]⟩, .string ⟨#[32]⟩] 9)
          have bT := (Below.refl U1.heap.size U1).alloc (Nat.le_refl _) (.cells #[.string ⟨#[]⟩, .string ⟨#[32, 35, 32, 97, 32, 99, 111, 109, 109, 101, 110, 116]⟩, .string ⟨#[32]⟩] 9)
          have G2 := grown_trans G1 (grown_of_below bT (some p))
          have R2 := R1.below bT
          have hTB := R1.lt
          refine hK.out _ _ (hKS.out _ G2) ?_
          clear hK K
          refine wpHold_branch (f := 5) (rs := [14]) (by kernel_rfl) (by simp) ?_
          refine AllHold.cons rfl (by decide) (fun K hK => ?_) AllHold.nil
          go_simp
          go_wp2_with (go_at_call 44; refine (pick_any B p (kk + 1 + 1) 3 _ R2 (by omega) (by omega) (by omega)).mono ?_; rintro e U ⟨z, hz, rfl, RU, gz⟩)
          have GU := grown_trans G2 gz
          refine hK.out _ _ (hKS.out _ GU) ?_
          clear hK K
          have TAB := (gz.block _ (by rw [World.size_alloc]; exact Nat.lt_succ_self _) (by intro e; have := Option.some.inj e; omega)).trans TAB
          clear G2 R2 gz bT
          generalize U1.heap.size = tb at *
        case' wayAa2 =>
          go_simp
          go_wp2_with (go_at_call 44; refine (pick_any B p (kk + 1 + 1) 3 _ R1 (by omega) (by omega) (by omega)).mono ?_; rintro e U2 ⟨z, hz, rfl, R2, gz⟩)
          have G2 := grown_trans G1 gz
          refine hK.out _ _ (hKS.out _ G2) ?_
          clear hK K
          refine wpHold_branch (f := 5) (rs := [12]) (by kernel_rfl) (by simp) ?_
          refine AllHold.cons rfl (by decide) (fun K hK => ?_) AllHold.nil
          go_simp
          have TAB := alloc_here U2 (.cells #[.string ⟨#[]⟩, .string ⟨#[32, 35, 32, 97, 32, 99, 111, 109, 109, 101, 110, 116]⟩, .string ⟨#[32]⟩] 9)
          have bT := (Below.refl U2.heap.size U2).alloc (Nat.le_refl _) (.cells #[.string ⟨#[]⟩, .string ⟨#[32, 35, 32, 97, 32, 99, 111, 109, 109, 101, 110, 116]⟩, .string ⟨#[32]⟩] 9)
          have GU := grown_trans G2 (grown_of_below bT (some p))
          have RU := R2.below bT
          have hTB := R2.lt
          refine hK.out _ _ (hKS.out _ GU) ?_
          clear hK K
          generalize hU : U2.alloc (.cells #[.string ⟨#[]⟩, .string ⟨#[32, 35, 32, 97, 32, 99, 111, 109, 109, 101, 110, 116]⟩, .string ⟨#[32]⟩] 9) = U at *
          clear hU bT
          generalize U2.heap.size = tb at *
        case' wayAb =>
          go_simp
          have TAB := alloc_here U1 (.cells #[.string ⟨#[]⟩, .string ⟨#[32, 35, 32, 97, 32, 99, 111, 109, 109, 101, 110, 116]⟩, .string ⟨#[32]⟩] 9)
          have bT := (Below.refl U1.heap.size U1).alloc (Nat.le_refl _) (.cells #[.string ⟨#[]⟩, .string ⟨#[32, 35, 32, 97, 32, 99, 111, 109, 109, 101, 110, 116]⟩, .string ⟨#[32]⟩] 9)
          have G2 := grown_trans G1 (grown_of_below bT (some p))
          have R2 := R1.below bT
          have hTB := R1.lt
          refine hK.out _ _ (hKS.out _ G2) ?_
          clear hK K
          refine wpHold_branch (f := 10) (rs := [3]) (by kernel_rfl) (by simp) ?_
          refine AllHold.cons rfl (by decide) (fun K hK => ?_) AllHold.nil
          go_simp
          go_wp2_with (go_at_call 80; refine (l1Many_any ⟨#[32]⟩ x1 _ (by decide) (by omega)).mono ?_; rintro e U1 ⟨s1, hs1, rfl, rfl⟩)
          have hs1' : s1.size ≤ 2 := by rw [hs1]; show 1 * x1 ≤ 2; omega
          clear hs1
          refine hK.out _ _ (hKS.out _ G2) ?_
          clear hK K
          have hc1 : ¬ 9223372036854775807 < t.size + s1.size := by omega
          have hc2 : ¬ 9223372036854775807 < t.size + s1.size + rk.size := by omega
          have hc3 : ¬ 9223372036854775807 < t.size + s1.size + rk.size + 2 := by omega
          have hc4 : ¬ 9223372036854775807 < t.size + s1.size + rk.size + 2 + rn.size := by omega
          refine wpHold_mask [false, false, false, false, true, false, false, true, true, false, false, true, false, false, false, false, false, false, false, false] 6 rfl (by kernel_rfl) (hKS.out _ G2) ?_
          simp only [maskL_t, maskL_f, maskL_n]
          iterate 4 (refine wpReads_step (fun K hK => ?_); go_simp; refine hK _ ?_; clear hK K)
          refine wpReads_nil ?_
          refine wpHold_branch (f := 5) (rs := [14]) (by kernel_rfl) (by simp) ?_
          refine AllHold.cons rfl (by decide) (fun K hK => ?_) AllHold.nil
          go_simp
          go_wp2_with (go_at_call 44; refine (pick_any B p (kk + 1 + 1) 3 _ R2 (by omega) (by omega) (by omega)).mono ?_; rintro e U ⟨z, hz, rfl, RU, gz⟩)
          have GU := grown_trans G2 gz
          refine hK.out _ _ (hKS.out _ GU) ?_
          clear hK K
          have TAB := (gz.block _ (by rw [World.size_alloc]; exact Nat.lt_succ_self _) (by intro e; have := Option.some.inj e; omega)).trans TAB
          generalize U1.heap.size = tb at *
        case' wayB =>
          go_simp
          have TAB := alloc_here w6.drew (.cells #[.string ⟨#[]⟩, .string ⟨#[32, 35, 32, 97, 32, 99, 111, 109, 109, 101, 110, 116]⟩, .string ⟨#[32]⟩] 9)
          have bT := (Below.refl w6.drew.heap.size w6.drew).alloc (Nat.le_refl _) (.cells #[.string ⟨#[]⟩, .string ⟨#[32, 35, 32, 97, 32, 99, 111, 109, 109, 101, 110, 116]⟩, .string ⟨#[32]⟩] 9)
          have G1 := grown_trans G0 (grown_of_below bT (some p))
          have R1 := R0.below bT
          have hTB := R0.lt
          refine hK.out _ _ (hKS.out _ G1) ?_
          clear hK K
          refine wpHold_branch (f := 11) (rs := [2]) (by kernel_rfl) (by simp) ?_
          refine AllHold.cons rfl (by decide) (fun K hK => ?_) AllHold.nil
          go_simp
          go_wp2_with (go_at_call 44; refine (pick_any B p (kk + 1) 3 _ R1 (by omega) (by omega) (by omega)).mono ?_; rintro e U2 ⟨x1, hx1, rfl, R2, gx1⟩)
          have G2 := grown_trans G1 gx1
          refine hK.out _ _ (hKS.out _ G2) ?_
          clear hK K
          have TAB := (gx1.block _ (by rw [World.size_alloc]; exact Nat.lt_succ_self _) (by intro e; have := Option.some.inj e; omega)).trans TAB
          refine wpHold_branch (f := 10) (rs := [3]) (by kernel_rfl) (by simp) ?_
          refine AllHold.cons rfl (by decide) (fun K hK => ?_) AllHold.nil
          go_simp
          go_wp2_with (go_at_call 80; refine (l1Many_any ⟨#[32]⟩ x1 _ (by decide) (by omega)).mono ?_; rintro e U1 ⟨s1, hs1, rfl, rfl⟩)
          have hs1' : s1.size ≤ 2 := by rw [hs1]; show 1 * x1 ≤ 2; omega
          clear hs1
          refine hK.out _ _ (hKS.out _ G2) ?_
          clear hK K
          have hc1 : ¬ 9223372036854775807 < t.size + s1.size := by omega
          have hc2 : ¬ 9223372036854775807 < t.size + s1.size + rk.size := by omega
          have hc3 : ¬ 9223372036854775807 < t.size + s1.size + rk.size + 2 := by omega
          have hc4 : ¬ 9223372036854775807 < t.size + s1.size + rk.size + 2 + rn.size := by omega
          refine wpHold_mask [false, false, false, false, true, false, false, true, true, false, false, true, false, false, false, false, false, false, false, false] 6 rfl (by kernel_rfl) (hKS.out _ G2) ?_
          simp only [maskL_t, maskL_f, maskL_n]
          iterate 4 (refine wpReads_step (fun K hK => ?_); go_simp; refine hK _ ?_; clear hK K)
          refine wpReads_nil ?_
          refine wpHold_branch (f := 5) (rs := [14]) (by kernel_rfl) (by simp) ?_
          refine AllHold.cons rfl (by decide) (fun K hK => ?_) AllHold.nil
          go_simp
          go_wp2_with (go_at_call 44; refine (pick_any B p (kk + 1 + 1) 3 _ R2 (by omega) (by omega) (by omega)).mono ?_; rintro e U ⟨z, hz, rfl, RU, gz⟩)
          have GU := grown_trans G2 gz
          refine hK.out _ _ (hKS.out _ GU) ?_
          clear hK K
          have TAB := (gz.block _ (Array.getElem?_eq_some_iff.1 TAB).1 (by intro e; have := Option.some.inj e; omega)).trans TAB
          have TAB : U.heap[w6.heap.size]? = _ := TAB
          generalize w6.heap.size = tb at *
        all_goals
          obtain ⟨u7, hu7, hc7⟩ := tab3 (M := 12) TAB hz (by decide) (by decide) (by decide)
          have hc5 : ¬ 9223372036854775807 < t.size + s1.size + rk.size + 2 + rn.size + u7.size := by omega
          have hc6 : ¬ 9223372036854775807 < t.size + s1.size + rk.size + 2 + rn.size + u7.size + 1 := by omega
          have hz0 : (0 : Int) ≤ (z : Int) := by omega
          have hz1 : (z : Int) < 3 := by omega
          have HSU : U.cell? ⟨tb, z, none⟩ = some (.string u7) := hc7
          have s3 := fun p : { W : World // W.cell? ⟨tb, z, none⟩ = some (.string u7) ∧ (W.cell? ⟨Y, 0, none⟩ = some (.string rk) ∧ W.cell? ⟨Y, 1, none⟩ = some (.string rn)) } => p.2.1
          letI : Inhabited { W : World // W.cell? ⟨tb, z, none⟩ = some (.string u7) ∧ (W.cell? ⟨Y, 0, none⟩ = some (.string rk) ∧ W.cell? ⟨Y, 1, none⟩ = some (.string rn)) } := ⟨⟨U, HSU, hKS.out _ GU⟩⟩
          refine wpHold_imp (S' := fun W => W.cell? ⟨tb, z, none⟩ = some (.string u7) ∧ (W.cell? ⟨Y, 0, none⟩ = some (.string rk) ∧ W.cell? ⟨Y, 1, none⟩ = some (.string rn))) (fun u h => h.2) ?_
          refine wpHold_mask [false, false, false, false, false, false, false, false, false, false, false, false, false, false, false, true, true, true, true, false] 1 rfl (by kernel_rfl) ⟨HSU, hKS.out _ GU⟩ ?_
          simp only [maskL_t, maskL_f, maskL_n]
          iterate 4 (refine wpReads_step (fun K hK => ?_); go_simp; refine hK _ ?_; clear hK K)
          refine wpReads_nil ?_
          refine wpHold_last (by kernel_rfl) rfl (by kernel_rfl) ?_
          intro K hK
          go_simp
          refine hK.out _ _ (NoPanic.normal ?_)
          clear hK K
          go_wp2_with fail
          go_meet
          refine ⟨_, rfl, ?_, RU, GU⟩
          simp only [ByteArray.size_append]
          have e2 : (⟨#[32, 32]⟩ : ByteArray).size = 2 := rfl
          have e1 : (⟨#[10]⟩ : ByteArray).size = 1 := rfl
          omega
      case rest =>
        obtain ⟨t9, rfl, ht9, R7, G7⟩ := hcut
        have hp1 := HL6H.out.1.plt
        have HS7 := HL6H.out.1.grown G7 R7
        have HY7 := HL6H.out.2.1.grown G7 hp1
        have HF7 := hid_in HL6H.out.2.2
        have HI7 := hid_in (show LooL B p (kk + 3 + nr * 9) (t9.size + nr * 1845) w1 X Y (.slice ao9 m c9) (D ++ T) rk rn (.string t9) wc from ⟨t9, kk + 1 + 1 + 1, .slice ra nr rc, r.ls, rfl, by rw [erl.out]; exact hr7, by rw [erl.out]; exact Nat.le_refl _, by rw [erl.out]; omega, HRL.out, HS7, HY7⟩)
        clear HL6H HS7 HY7 G7 R7 HRL HRB
        obtain ⟨wo, hwo⟩ : ∃ wo, wo = wr := ⟨_, rfl⟩
        subst hwo
        go_wp2
        go_loopw [5] (fun o wr => LooL B p (kk + 3 + nr * 9) (t9.size + nr * 1845) w1 X Y (.slice ao9 m c9) (D ++ T) rk rn o wr) (fun _ W => linesLeft Y W)
        case atStart => exact HI7.out
        case round =>
          clear HI7
          obtain ⟨t3, k3, bv, ls, rfl, hl7, ht3, hk3, hls, HS, HY⟩ := hrel
          obtain ⟨ba, bc, rfl⟩ := HY.free.1.1.form
          have e2 := cell_of_block HY.box 2
          simp only [List.getElem?_toArray, List.getElem?_cons_zero, List.getElem?_cons_succ] at e2
          have hms3 := hid_in (linesLeft_of e2)
          have ht30 : t3.size ≤ 790000 := by omega
          by_cases hn3 : ls.length = 0
          · have hn3' : ¬ ((0 : Int) < (ls.length : Int)) := by omega
            have c0 := cell_of_block HS.box 0
            simp only [List.getElem?_toArray, List.getElem?_cons_zero] at c0
            have hms4 := blocksLeft_of c0
            have HR := hid_in (show LooO B p k w1 X (.string (t3 ++ ⟨#[101, 110, 100, 10]⟩)) wr from ⟨_, k3, _, D ++ T, rfl, by have := hDT'.out; omega, by rw [ByteArray.size_append, hDT'.out]; show t3.size + 4 + _ ≤ _; omega, by rw [hDT'.out]; omega, HSM6.out, HS⟩)
            have HMS := hid_in (show blocksLeft X wr < blocksLeft X wo from by rw [hms4, hms.out]; omega)
            have hc9 : ¬ 9223372036854775807 < t3.size + 4 := by omega
            clear HS HY hls hms4
            generalize ls.length = nl at *
            go_wp2
            go_roundw
            case rel => exact HR.out
            case measure => exact HMS.out
          · have hn3' : ((0 : Int) < (ls.length : Int)) := by omega
            have HP := pick_any B p k3 ls.length wr HS.rd (by omega) (by omega) (by omega)
            have HSH := hid_in HS
            have HYH := hid_in HY
            have HLS := hid_in hls
            clear HS HY hls
            generalize hnl : ls.length = nl at *
            have enl := hid_in hnl
            clear hnl
            go_wp2_with (go_at_call 44; refine HP.mono ?_)
            rintro e w3 ⟨y, hy, rfl, hr3, hg3⟩
            have HS3 := hid_in (HSH.out.grown hg3 hr3)
            have HY3 := hid_in (HYH.out.grown hg3 hp1)
            obtain ⟨D2, x, T2, els, hD2⟩ := split1 ls y (by have := enl.out; omega)
            have hxm : x ∈ ls := by rw [els]; simp
            have hrow := HY3.out.free.1.1
            rw [els] at hrow
            obtain ⟨b1, o1, eba, d0, d1⟩ := hrow.line
            subst eba
            obtain ⟨xa, xc, ex⟩ := HasRow.form (HY3.out.free.1.2 x hxm)
            have hx3 := HLS.out x hxm
            have HXW := hid_in hx3.2.2
            have hxk : x.key.size ≤ 20 := hx3.1
            have hxw : x.ws.length ≤ 3 := hx3.2.1
            have ELS := hid_in els
            have ED2 := hid_in hD2
            have HXM := hid_in hxm
            have EX := hid_in ex
            have HRX := hid_in (show ∀ W, w3.grownBy W (some p) → (W.cell? ⟨Y, 2, none⟩ = some (.slice (some ⟨b1, o1, none⟩) nl bc) ∧ W.cell? ⟨b1, o1 + y * 2, none⟩ = some (.string x.key) ∧ W.cell? ⟨b1, o1 + y * 2 + 1, none⟩ = some (.slice xa x.ws.length xc)) ∧ HasRow W (.slice xa x.ws.length xc) x.ws.length 1 (strs x.ws) from fun W hg => by
              have hy := HY3.out.grown hg hp1
              have f2 := cell_of_block hy.box 2
              simp only [List.getElem?_toArray, List.getElem?_cons_zero, List.getElem?_cons_succ] at f2
              have hr := hy.free.1.1
              rw [ELS.out] at hr
              obtain ⟨b', o', e', f0, f1⟩ := hr.line
              cases e'
              have hx := hy.free.1.2 x HXM.out
              unfold LineIn at hx
              rw [EX.out] at f1 hx
              rw [ED2.out] at f0 f1
              exact ⟨⟨f2, f0, f1⟩, hx⟩)
            clear HP HSH HYH hrow d0 d1 els hD2 hxm ex hx3 hr3 hg3 e2
            go_upto_region 10 with fail
            have hy0 : (0 : Int) ≤ (y : Int) := by omega
            have hy1 : (y : Int) < (nl : Int) := by omega
            generalize x.key = xk at *
            generalize hnw : x.ws.length = nw at *
            have enw := hid_in hnw
            clear hnw
            have hKS := hid_in (show ∀ W, w3.grownBy W (some p) → W.cell? ⟨Y, 2, none⟩ = some (.slice (some ⟨b1, o1, none⟩) nl bc) ∧ W.cell? ⟨b1, o1 + y * 2, none⟩ = some (.string xk) from fun W hg => ⟨(HRX.out W hg).1.1, (HRX.out W hg).1.2.1⟩)
            have G0 : w3.grownBy w3.drew (some p) := grown_of_below (Below.refl _ _).drew _
            have R0 : Rd B w3.drew p (k3 + 1) := HS3.out.rd.below (Below.refl _ _).drew
            have s0 := fun p : { W : World // W.cell? ⟨Y, 2, none⟩ = some (.slice (some ⟨b1, o1, none⟩) nl bc) ∧ W.cell? ⟨b1, o1 + y * 2, none⟩ = some (.string xk) } => p.2.1
            have s1 := fun p : { W : World // W.cell? ⟨Y, 2, none⟩ = some (.slice (some ⟨b1, o1, none⟩) nl bc) ∧ W.cell? ⟨b1, o1 + y * 2, none⟩ = some (.string xk) } => p.2.2
            letI : Inhabited { W : World // W.cell? ⟨Y, 2, none⟩ = some (.slice (some ⟨b1, o1, none⟩) nl bc) ∧ W.cell? ⟨b1, o1 + y * 2, none⟩ = some (.string xk) } := ⟨⟨w3.drew, hKS.out _ G0⟩⟩
            refine wp_region_hold (S := fun W => W.cell? ⟨Y, 2, none⟩ = some (.slice (some ⟨b1, o1, none⟩) nl bc) ∧ W.cell? ⟨b1, o1 + y * 2, none⟩ = some (.string xk)) 12 13 (by kernel_rfl) rfl ?_
            refine wpHold_mask [true, true, false, false, false, true, true, true, true, true, true, false, false] 5 rfl (by kernel_rfl) (hKS.out _ G0) ?_
            simp only [maskL_t, maskL_f, maskL_n]
            iterate 8 (refine wpReads_step (fun K hK => ?_); go_simp; refine hK _ ?_; clear hK K)
            refine wpReads_nil ?_
            clear s0 s1
            refine wpHold_branch (f := 4) (rs := [2]) (by kernel_rfl) (by simp) ?_
            refine AllHold.cons rfl (by decide) (fun K hK => ?_) AllHold.nil
            go_simp
            go_wp2_with (go_at_call 44; refine (pick_any B p (k3 + 1) 5 _ R0 (by omega) (by omega) (by omega)).mono ?_; rintro e U1 ⟨x1, hx1, rfl, R1, gx1⟩)
            have G1 := grown_trans G0 gx1
            refine hK.out _ _ (hKS.out _ G1) ?_
            clear hK K
            refine wpHold_branch (f := 3) (rs := [3]) (by kernel_rfl) (by simp) ?_
            refine AllHold.cons rfl (by decide) (fun K hK => ?_) AllHold.nil
            go_simp
            go_wp2_with (go_at_call 80; refine (l1Many_any ⟨#[32]⟩ x1 _ (by decide) (by omega)).mono ?_; rintro e U1 ⟨s1, hs1, rfl, rfl⟩)
            have hs1' : s1.size ≤ 4 := by rw [hs1]; show 1 * x1 ≤ 4; omega
            clear hs1
            refine hK.out _ _ (hKS.out _ G1) ?_
            clear hK K
            have hc1 : ¬ 9223372036854775807 < t3.size + s1.size := by omega
            have hc2 : ¬ 9223372036854775807 < t3.size + s1.size + xk.size := by omega
            refine wpHold_mask [false, false, false, false, true, false, false, false, false, false, false, true, false] 1 rfl (by kernel_rfl) (hKS.out _ G1) ?_
            simp only [maskL_t, maskL_f, maskL_n]
            iterate 2 (refine wpReads_step (fun K hK => ?_); go_simp; refine hK _ ?_; clear hK K)
            refine wpReads_nil ?_
            refine wpHold_last (by kernel_rfl) rfl (by kernel_rfl) ?_
            intro K hK
            go_simp
            refine hK.out _ _ (NoPanic.normal ?_)
            clear hK K
            have ht4 : (t3 ++ s1 ++ xk).size ≤ t3.size + 24 := by simp only [ByteArray.size_append]; omega
            generalize t3 ++ s1 ++ xk = t4 at *
            clear hc1 hc2 hs1' R0 gx1
            have HIW := hid_in (show ∃ (t5 : ByteArray) (j k5 : Nat), Value.string t4 = .string t5 ∧ Value.int .i64 0 = .int .i64 (j : Int) ∧ j ≤ nw ∧ t5.size ≤ t4.size + j * 606 ∧ k5 ≤ k3 + 2 + 2 * j ∧ Rd B U1 p k5 ∧ w3.grownBy U1 (some p) from ⟨t4, 0, k3 + 1 + 1, rfl, rfl, by omega, by omega, by omega, R1, G1⟩)
            clear R1 G1
            obtain ⟨wi, hwi⟩ : ∃ wi, wi = wr := ⟨_, rfl⟩
            subst hwi
            go_wp2
            go_loopw [5, 10] (fun o i wr => ∃ (t5 : ByteArray) (j k5 : Nat), o = .string t5 ∧ i = .int .i64 (j : Int) ∧ j ≤ nw ∧ t5.size ≤ t4.size + j * 606 ∧ k5 ≤ k3 + 2 + 2 * j ∧ Rd B wr p k5 ∧ w3.grownBy wr (some p)) (fun _ i _ => nw - (intOf i).toNat)
            case atStart => exact HIW.out
            case round =>
              clear HIW
              obtain ⟨t5, j, k5, rfl, rfl, hj, ht5, hk5, R5, G5⟩ := hrel
              have ht50 : t5.size ≤ 800000 := by omega
              obtain ⟨⟨f2, f0, f1⟩, hxr⟩ := HRX.out wr G5
              by_cases hlt : j < nw
              · have hlt' : ((j : Int) < (nw : Int)) := by omega
                have hj0 : (0 : Int) ≤ (j : Int) := by omega
                obtain ⟨gx, ox, exa, fw⟩ := hxr.word j (by have := enw.out; omega)
                subst exa
                have hws : (⟨(x.ws[j]'(by have := enw.out; omega)).toArray⟩ : ByteArray).size ≤ 200 := by show (Array.size _) ≤ 200; rw [List.size_toArray]; exact HXW.out _ (List.getElem_mem _)
                generalize hsw : (⟨(x.ws[j]'(by have := enw.out; omega)).toArray⟩ : ByteArray) = sw at *
                have ESW := hid_in hsw
                clear hsw
                have HW := specWord_any sw wr (by omega)
                have hwl : (⟨(wordL sw.data.toList).toArray⟩ : ByteArray).size ≤ 602 := by
                  have h1 := wordL_len' sw.data.toList
                  have h2 : sw.data.toList.length = sw.size := by simp
                  show (Array.size _) ≤ 602; rw [List.size_toArray]; omega
                generalize (⟨(wordL sw.data.toList).toArray⟩ : ByteArray) = ww at *
                have lfw := World.block_lt_of_cell? _ _ fw
                go_wp2_with (go_at_call 152; refine HW.mono ?_)
                first | rintro e w4 rfl b4 | rintro e w4 ⟨rfl, b4⟩
                have G4 := grown_trans G5 (grown_of_below b4 (some p))
                have R4 := R5.below b4
                have HP := pick_any B p k5 3 w4 R4 (by omega) (by omega) (by omega)
                clear HW b4 f2 f0 f1 hxr fw lfw
                go_wp2_with (go_at_call 44; refine HP.mono ?_)
                rintro e w5 ⟨z, hz, rfl, R6, g6⟩
                have G6 := grown_trans G4 g6
                obtain ⟨⟨f2, f0, f1⟩, hxr⟩ := HRX.out w5 G6
                obtain ⟨gx', ox', exa, fw⟩ := hxr.word j (by have := enw.out; omega)
                cases exa
                rw [ESW.out] at fw
                have lfw := World.block_lt_of_cell? _ _ fw
                clear HP hxr g6
                by_cases hz0 : z = 0
                · subst hz0
                  cases hB : (ww.toList == sw.toList)
                  · have HP2 := pick_any B p (k5 + 1) 2 w5 R6 (by omega) (by omega) (by omega)
                    go_wp2_with (go_at_call 44; refine HP2.mono ?_)
                    rintro e w7 ⟨x2, hx2, rfl, R8, g8⟩
                    have G8 := grown_trans G6 g8
                    have hmm := l1Many_any ⟨#[32]⟩ (1 + x2) w7 (by decide) (by omega)
                    rw [show ((1 + x2 : Nat) : Int) = 1 + (x2 : Int) from by omega] at hmm
                    clear HP2 f2 f0 f1 fw lfw g8
                    go_wp2_with (go_at_call 80; refine hmm.mono ?_)
                    rintro e w7 ⟨u1, hu1, rfl, rfl⟩
                    have hu1' : u1.size ≤ 2 := by rw [hu1]; show 1 * (1 + x2) ≤ 2; omega
                    clear hmm hu1
                    go_wp2
                    go_roundw
                    case rel =>
                      refine ⟨_, j + 1, k5 + 1 + 1, rfl, by go_num, by omega, ?_, by omega, R8, G8⟩
                      simp only [ByteArray.size_append]
                      omega
                    case measure => simp [intOf]; omega
                  · have HP2 := pick_any B p (k5 + 1) 2 w5 R6 (by omega) (by omega) (by omega)
                    go_wp2_with (go_at_call 44; refine HP2.mono ?_)
                    rintro e w7 ⟨x2, hx2, rfl, R8, g8⟩
                    have G8 := grown_trans G6 g8
                    have hmm := l1Many_any ⟨#[32]⟩ (1 + x2) w7 (by decide) (by omega)
                    rw [show ((1 + x2 : Nat) : Int) = 1 + (x2 : Int) from by omega] at hmm
                    clear HP2 f2 f0 f1 fw lfw g8
                    go_wp2_with (go_at_call 80; refine hmm.mono ?_)
                    rintro e w7 ⟨u1, hu1, rfl, rfl⟩
                    have hu1' : u1.size ≤ 2 := by rw [hu1]; show 1 * (1 + x2) ≤ 2; omega
                    clear hmm hu1
                    go_wp2
                    go_roundw
                    case rel =>
                      refine ⟨_, j + 1, k5 + 1 + 1, rfl, by go_num, by omega, ?_, by omega, R8, G8⟩
                      simp only [ByteArray.size_append]
                      have e34 : (⟨#[34]⟩ : ByteArray).size = 1 := rfl
                      omega
                    case measure => simp [intOf]; omega
                · have hz1 : ((z : Int) == 0) = false := by rw [beq_eq_false_iff_ne]; omega
                  have HP2 := pick_any B p (k5 + 1) 2 w5 R6 (by omega) (by omega) (by omega)
                  go_wp2_with (go_at_call 44; refine HP2.mono ?_)
                  rintro e w7 ⟨x2, hx2, rfl, R8, g8⟩
                  have G8 := grown_trans G6 g8
                  have hmm := l1Many_any ⟨#[32]⟩ (1 + x2) w7 (by decide) (by omega)
                  rw [show ((1 + x2 : Nat) : Int) = 1 + (x2 : Int) from by omega] at hmm
                  clear HP2 f2 f0 f1 fw lfw g8
                  go_wp2_with (go_at_call 80; refine hmm.mono ?_)
                  rintro e w7 ⟨u1, hu1, rfl, rfl⟩
                  have hu1' : u1.size ≤ 2 := by rw [hu1]; show 1 * (1 + x2) ≤ 2; omega
                  clear hmm hu1
                  go_wp2
                  go_roundw
                  case rel =>
                    refine ⟨_, j + 1, k5 + 1 + 1, rfl, by go_num, by omega, ?_, by omega, R8, G8⟩
                    simp only [ByteArray.size_append]
                    omega
                  case measure => simp [intOf]; omega
              · obtain rfl : j = nw := by omega
                have hlt' : ¬ ((j : Int) < (j : Int)) := by omega
                have bT := (Below.refl wr.heap.size wr).alloc (Nat.le_refl _) (.cells #[.string ⟨#[10]⟩, .string ⟨#[32, 35, 10]⟩, .string ⟨#[10, 10]⟩] 9)
                have TAB := alloc_here wr (.cells #[.string ⟨#[10]⟩, .string ⟨#[32, 35, 10]⟩, .string ⟨#[10, 10]⟩] 9)
                have hpw := R5.lt
                have HP := pick_any B p k5 3 _ (R5.below bT) (by omega) (by omega) (by omega)
                have GT := grown_trans G5 (grown_of_below bT (some p))
                clear hxr bT
                go_wp2_with (go_at_call 44; refine HP.mono ?_)
                rintro e wk ⟨z, hz, rfl, R6, g6⟩
                have TAB := (g6.block _ (Array.getElem?_eq_some_iff.1 TAB).1 (by intro e; have := Option.some.inj e; omega)).trans TAB
                have Gk := grown_trans GT g6
                obtain ⟨u7, hu7, hc7⟩ := tab3 (M := 3) TAB hz (by decide) (by decide) (by decide)
                have hz0 : (0 : Int) ≤ (z : Int) := by omega
                have hz1 : (z : Int) < 3 := by omega
                have HSk := hid_in (HS3.out.grown Gk R6)
                have HYk := hid_in (HY3.out.grown Gk hp1)
                have ht6 : (t5 ++ u7).size ≤ t3.size + 1845 := by rw [ByteArray.size_append]; omega
                clear HP f2 f0 f1 TAB GT g6 G5 R5 R6 Gk HRX HS3 HY3
                go_upto_region 19 with fail
                have c6 := cell_of_block HYk.out.box 2
                simp only [List.getElem?_toArray, List.getElem?_cons_zero, List.getElem?_cons_succ] at c6
                have hbl := hid_in (show HasRow wk (.slice (some ⟨b1, o1, none⟩) nl bc) nl 2 ((D2 ++ x :: T2).flatMap LAt.cells) from by have := HYk.out.free.1.1; rw [ELS.out] at this; have e := enl.out; rw [ELS.out] at e; rw [e] at this; exact this)
                have hlc : nl ≤ bc := hbl.out.cap.1
                clear hc7
                generalize (some ⟨b1, o1, none⟩ : Option Addr) = la at *
                have q2 : (y : Int) ≤ (nl : Int) := by omega
                have q3 : (nl : Int) ≤ (bc : Int) := by omega
                have q4 : (y : Int) ≤ (bc : Int) := by omega
                have q5 : (0 : Int) ≤ (y : Int) + 1 := by omega
                have q6 : (y : Int) + 1 ≤ (nl : Int) := by omega
                have q7 : IntKind.i64.wrap ((y : Int) + 1) = (y : Int) + 1 := by rw [IntKind.wrap_i64]; omega
                have hS0 : wk.drew.cell? ⟨Y, 2, none⟩ = some (.slice la nl bc) := c6
                have s0 := fun p : { W : World // W.cell? ⟨Y, 2, none⟩ = some (.slice la nl bc) } => p.2
                letI : Inhabited { W : World // W.cell? ⟨Y, 2, none⟩ = some (.slice la nl bc) } := ⟨⟨wk.drew, hS0⟩⟩
                refine wp_region_hold (S := fun W => W.cell? ⟨Y, 2, none⟩ = some (.slice la nl bc)) 13 14 (by kernel_rfl) rfl ?_
                refine wpHold_mask [false, true, true, true, true, false, true, true, true, true, true, false, false, false] 5 rfl (by kernel_rfl) hS0 ?_
                simp only [maskL_t, maskL_f, maskL_n]
                iterate 9 (refine wpReads_step (fun K hK => ?_); go_simp; refine hK _ ?_; clear hK K)
                refine wpReads_nil ?_
                have hDrow := hid_in (show HasRow wk (.slice la y bc) y 2 (D2.flatMap LAt.cells) from by
                  have h2 := hbl.out.take y (by omega)
                  rw [List.flatMap_append, ← ED2.out, ← rowF_len LAt.cells 2 LAt.len D2, List.take_left] at h2
                  rw [← ED2.out]; exact h2)
                have hTrow := hid_in (show HasRow wk (.slice (if bc = y + 1 then la else la.map (fun a => a.add ((y + 1) * 2))) (nl - (y + 1)) (bc - (y + 1))) (nl - (y + 1)) 2 (T2.flatMap LAt.cells) from by
                  have h2 := hbl.out.drop (y + 1) (by omega)
                  rw [show (D2 ++ x :: T2).flatMap LAt.cells = (D2 ++ [x]).flatMap LAt.cells ++ T2.flatMap LAt.cells by rw [← List.flatMap_append, List.append_assoc]; rfl, List.drop_left' (by rw [rowF_len LAt.cells 2 LAt.len, List.length_append, ED2.out]; rfl)] at h2
                  exact h2)
                have hone := hid_in (show ∀ z ∈ ls, ∃ a n c, z.v = .slice a n c from fun z hz => by obtain ⟨a, c, e⟩ := HasRow.form (HYk.out.free.1.2 z hz); exact ⟨a, _, c, e⟩)
                have hD1 := hid_in (lcells_one (ls := D2) (fun z hz => hone.out z (by rw [ELS.out]; simp [hz])))
                have hT1 := hid_in (lcells_one (ls := T2) (fun z hz => hone.out z (by rw [ELS.out]; simp [hz])))
                have hTl : T2.length = nl - (y + 1) := by have e := enl.out; rw [ELS.out] at e; simp only [List.length_append, List.length_cons, ED2.out] at e; omega
                obtain ⟨i0, hi, hi0, hi1, hi2⟩ := info_parts infoLine
                generalize (if bc = y + 1 then la else la.map (fun a => a.add ((y + 1) * 2))) = laT at hTrow ⊢
                have hKT := hid_in (show ∀ u, Below wk.heap.size wk u → u.cell? ⟨Y, 2, none⟩ = some (.slice la nl bc) from fun u hu => (hu.cell (World.block_lt_of_cell? wk _ c6)).trans c6)
                refine wpHold_branch (f := 4) (rs := [0]) (by kernel_rfl) (by simp) ?_
                refine AllHold.cons rfl (by decide) (fun K hK => ?_) AllHold.nil
                go_simp
                have bA : Below wk.heap.size wk (wk.alloc (.cells #[] 115)).drew := ((Below.refl wk.heap.size wk).alloc (Nat.le_refl _) (.cells #[] 115)).drew
                have oA : (wk.alloc (.cells #[] 115)).drew.ownsRow wk.heap.size 115 2 (.slice (some ⟨wk.heap.size, 0, none⟩) 0 0) 0 [] := World.ownsRow_lit (base := wk.heap.size) (e := 115) (size := 2) wk #[] 0 (Nat.le_refl _) (by decide) rfl
                refine hK.out _ _ (hKT.out _ bA) ?_
                clear hK K
                refine wpHold_branch (f := 3) (rs := [5]) (by kernel_rfl) (by simp) ?_
                refine AllHold.cons rfl (by decide) (fun K hK => ?_) AllHold.nil
                refine step_append_has rfl _ _ 44 rfl wk.heap.size 115 i0 _ 2 40 Tryz.underlying44 hi hi0 hi1 hi2 rfl (by decide) _ 0 _ rfl oA _ y _ rfl (hDrow.out.below bA) hD1.out (by unfold maxLen; omega) (by omega) bA.size ?_
                intro ao5 c5 u5 own5 hg5 _
                simp only [Nat.zero_add, List.nil_append] at own5 ⊢
                have b5 := bA.grown hg5 bA.size (fun q hq => by cases hq; exact Nat.le_refl _)
                refine hK.out _ _ (hKT.out _ b5) ?_
                clear hK K
                refine wpHold_branch (f := 2) (rs := [11]) (by kernel_rfl) (by simp) ?_
                refine AllHold.cons rfl (by decide) (fun K hK => ?_) AllHold.nil
                have hbase5 : ∀ q, (Value.slice ao5 y c5).ownBlock = some q → wk.heap.size ≤ q := fun q hq => (own5.lt q hq).1
                refine step_append_has rfl _ _ 44 rfl wk.heap.size 115 i0 _ 2 40 Tryz.underlying44 hi hi0 hi1 hi2 rfl (by decide) _ y _ rfl own5 _ (nl - (y + 1)) _ rfl (hTrow.out.below b5) hT1.out (by unfold maxLen; omega) (by omega) b5.size ?_
                intro aoZ cZ uZ ownZ hgZ _
                have bZ := b5.grown hgZ b5.size hbase5
                refine hK.out _ _ (hKT.out _ bZ) ?_
                clear hK K own5 hg5 hgZ hbase5 b5 bA oA
                refine wpHold_branch (f := 1) (rs := [12]) (by kernel_rfl) (by simp) ?_
                refine AllHold.cons rfl (by decide) (fun K hK => ?_) AllHold.nil
                go_simp
                refine hK.out _ _ (hKT.out _ bZ) ?_
                clear hK K
                have z9 := (HYk.out.below bZ).box
                have m2 := cell_of_block z9 2
                have fr2 := frozen_of_block z9 2
                simp only [List.getElem?_toArray, List.getElem?_cons_zero, List.getElem?_cons_succ] at m2
                have hN9 : y + (nl - (y + 1)) = nl - 1 := by omega
                have hDT2 : (D2 ++ T2).length = nl - 1 := by rw [List.length_append, ED2.out, hTl]; exact hN9
                have HL9 := loose19 (ls' := D2 ++ T2) (n := nl - 1) HSk.out HYk.out HF7.out bZ (by rw [List.flatMap_append, hDT2]; rw [hN9] at ownZ; exact ownZ) (fun x hx => by rw [ELS.out]; rcases List.mem_append.1 hx with hx | hx <;> simp [hx]) (by rw [hDT2, enl.out]; omega)
                rw [hN9]
                have HR9 := hid_in (show LooL B p (kk + 3 + nr * 9) (t9.size + nr * 1845) w1 X Y (.slice ao9 m c9) (D ++ T) rk rn (.string (t5 ++ u7)) (uZ.setCell ⟨Y, 2, none⟩ (.slice aoZ (nl - 1) cZ)) from ⟨t5 ++ u7, k5 + 1, _, D2 ++ T2, rfl, by omega, by rw [hDT2]; omega, by rw [hDT2]; omega, fun x hx => HLS.out x (by rw [ELS.out]; rcases List.mem_append.1 hx with hx | hx <;> simp [hx]), HL9.1, HL9.2⟩)
                have f9 := cell_of_block HL9.2.box 2
                simp only [List.getElem?_toArray, List.getElem?_cons_zero, List.getElem?_cons_succ] at f9
                have HM9 := hid_in (show linesLeft Y (uZ.setCell ⟨Y, 2, none⟩ (.slice aoZ (nl - 1) cZ)) < linesLeft Y wi from by rw [linesLeft_of f9, hms3.out]; omega)
                clear ownZ HL9 hDrow hTrow hone hD1 hT1 hbl hKT HSk HYk hN9 hDT2 ELS ED2 hTl f9
                refine wpHold_last (by kernel_rfl) rfl (by kernel_rfl) ?_
                intro K hK
                go_simp
                refine hK.out _ _ (NoPanic.normal ?_)
                clear hK K
                go_wp2
                go_roundw
                case rel => exact HR9.out
                case measure => exact HM9.out
end Go.Proofs.YtpdahhnjhggocaaGreatDoor
namespace Go.Proofs.YtpdahhnjhggocaaGreatDoor
open Go.RowKit
def DrawnT (w : World) (e : Ending) (w' : World) : Prop := ∃ t : ByteArray, t.size ≤ 1600000 ∧ e = .returned (.string t) ∧ Below w.heap.size w w'
def tab14 : List ByteArray := [⟨#[116, 101, 97, 109, 32, 97, 10, 116, 101, 97, 109, 32, 98, 10]⟩, ⟨#[122, 111, 110, 101, 32, 120, 10, 101, 110, 100, 10]⟩, ⟨#[116, 101, 97, 109, 10]⟩, ⟨#[116, 101, 97, 109, 32, 65, 10, 101, 110, 100, 10]⟩, ⟨#[101, 110, 100, 10]⟩, ⟨#[116, 101, 97, 109, 32, 113, 10]⟩, ⟨#[116, 101, 97, 109, 32, 113, 10, 32, 99, 111, 112, 105, 101, 115, 32, 49, 10, 32, 99, 111, 112, 105, 101, 115, 32, 50, 10, 101, 110, 100, 10]⟩, ⟨#[98, 101, 114, 116, 104, 32, 113, 10, 109, 97, 114, 107, 32, 97, 10, 109, 97, 114, 107, 32, 97, 10, 101, 110, 100]⟩, ⟨#[116, 101, 97, 109, 32, 113, 10, 122, 105, 112, 32, 49, 10, 101, 110, 100, 10]⟩, ⟨#[116, 101, 97, 109, 32, 113, 10, 114, 111, 111, 109, 32, 120, 10, 101, 110, 100, 10]⟩, ⟨#[116, 101, 97, 109, 32, 113, 10, 114, 111, 111, 109, 10, 101, 110, 100]⟩, ⟨#[116, 101, 97, 109, 32, 113, 10, 101, 110, 100, 10, 116, 101, 97, 109, 32, 113, 10, 101, 110, 100, 10]⟩, ⟨#[116, 101, 97, 109, 32, 113, 32, 114, 10, 101, 110, 100, 10]⟩, ⟨#[34, 116, 101, 97, 109, 34, 32, 34, 113, 34, 10, 34, 101, 110, 100, 34]⟩]
theorem tab14_le : ∀ u ∈ tab14, u.size ≤ 100 := by decide
set_option maxHeartbeats 4000000 in
set_option maxRecDepth 100000 in
theorem drawParse_any (a : Option Addr) (len cap : Nat) (w : World) (hc : Code w.heap.size w a len cap) : Calls Tryz.prog 22 #[.slice a len cap] w fun e w' => DrawnT w e w' := by
  have HO := l1Open_any w.heap.size a len cap w (Nat.le_refl _) hc.1 hc.2.1 hc.2.2.1 hc.2.2.2
  clear hc
  go_enter Tryz.func22, Tryz.ntmps22
  go_wp2_with (go_at_call 42; refine HO.mono ?_)
  rintro e w1 ⟨rfl, h1, b1⟩
  have z1 := b1.size
  have HD := l3Draw_any _ _ 0 w1 h1 (by omega)
  clear HO
  go_wp2_with (go_at_call 78; refine HD.mono ?_)
  rintro e w2 ⟨v, bs, k2, rfl, hk2, h2, g2, ho, hl, hs, hsk⟩
  have b2 := below_of_grown b1 z1 (Nat.le_refl _) g2
  have z2 := b2.size
  have HL := l3Loose_any _ _ k2 w2 h2 (by omega) ho.bin hl hs hsk
  clear HD h1 g2 ho hl hs hsk
  go_wp2_with (go_at_call 77; refine HL.mono ?_)
  rintro e w3 ⟨s, k3, hs3, hk3, rfl, h3, g3⟩
  have b3 := below_of_grown b2 z2 (Nat.le_refl _) g3
  have z3 := b3.size
  have HP := pick_any _ _ k3 8 w3 h3 (by omega) (by omega) (by omega)
  clear HL h2 b2 g3
  go_wp2_with (go_at_call 44; refine HP.mono ?_)
  rintro e w4 ⟨y, hy, rfl, h4, g4⟩
  have b4 := below_of_grown b3 z3 (Nat.le_refl _) g4
  have z4 := b4.size
  clear HP h3 b3 g4
  have hy8 : y = 0 ∨ y = 1 ∨ y = 2 ∨ y = 3 ∨ y = 4 ∨ 5 ≤ y := by omega
  rcases hy8 with rfl | rfl | rfl | rfl | rfl | hy5
  · go_wp2_with (go_at_call 79; refine (l1Bend_any _ _ (k3 + 1) s w4 h4 (by omega) (by omega)).mono ?_)
    rintro e w5 ⟨u, k5, hu, hk5, rfl, h5, g5⟩
    go_wp2
    go_ret
    exact ⟨u, by omega, rfl, below_of_grown b4 z4 (Nat.le_refl _) g5⟩
  · go_wp2_with (go_at_call 79; refine (l1Bend_any _ _ (k3 + 1) s w4 h4 (by omega) (by omega)).mono ?_)
    rintro e w5 ⟨u, k5, hu, hk5, rfl, h5, g5⟩
    go_wp2
    go_ret
    exact ⟨u, by omega, rfl, below_of_grown b4 z4 (Nat.le_refl _) g5⟩
  · go_wp2_with (go_at_call 44; refine (pick_any _ _ (k3 + 1) 14 _ (h4.below ((Below.refl _ _).alloc (Nat.le_refl _) _)) (by omega) (by omega) (by omega)).mono ?_)
    rintro e w5 ⟨z, hz, rfl, h5, g5⟩
    obtain ⟨u, hu, hcu⟩ := tab_cell w4 w5 tab14 100 z _ tab14_le hz g5 h4.lt
    have hz0 : (0 : Int) ≤ (z : Int) := by omega
    have hz1 : (z : Int) < 14 := by omega
    have bA := b4.alloc z4 (.cells (tab14.map Value.string).toArray 9)
    have b5 := below_of_grown bA (by rw [World.size_alloc]; omega) (Nat.le_refl _) g5
    clear h4 b4 g5 h5 bA
    go_wp2
    go_ret
    exact ⟨_, by rw [ByteArray.size_append]; omega, rfl, b5⟩
  · have hmm := l1Many_any ⟨#[109, 97, 114, 107, 32, 109, 10, 109, 97, 114, 107, 32, 110, 10]⟩ 1 w4 (by decide) (by omega)
    go_wp2_with (go_at_call 80; refine hmm.mono ?_)
    rintro e w4 ⟨u1, hu1, rfl, rfl⟩
    have hu1' : u1.size ≤ 14 := by rw [hu1]; decide
    clear hmm hu1
    go_wp2_with (go_at_call 44; refine (pick_any _ _ (k3 + 1) 2 w4 h4 (by omega) (by omega) (by omega)).mono ?_)
    rintro e w5 ⟨x, hx, rfl, h5, g5⟩
    have b5 := below_of_grown b4 z4 (Nat.le_refl _) g5
    have hm2 := l1Many_any ⟨#[109, 97, 114, 107, 32, 105, 10]⟩ x w5 (by decide) (by omega)
    clear h4 b4 g5
    go_wp2_with (go_at_call 80; refine hm2.mono ?_)
    rintro e w5 ⟨u2, hu2, rfl, rfl⟩
    have hu2' : u2.size ≤ 7 := by rw [hu2]; show 7 * x ≤ 7; omega
    clear hm2 hu2
    go_wp2
    go_ret
    refine ⟨_, ?_, rfl, b5⟩
    simp only [ByteArray.size_append]
    refine Nat.le_trans (Nat.add_le_add (Nat.add_le_add (Nat.add_le_add (Nat.add_le_add (Nat.add_le_add hs3 (show _ ≤ 100 by decide)) hu1') (show _ ≤ 1000 by decide)) hu2') (show _ ≤ 100 by decide)) (by decide)
  · go_wp2_with (go_at_call 44; refine (pick_any _ _ (k3 + 1) 70 w4 h4 (by omega) (by omega) (by omega)).mono ?_)
    rintro e w5 ⟨x, hx, rfl, h5, g5⟩
    have b5 := below_of_grown b4 z4 (Nat.le_refl _) g5
    have hm2 := l1Many_any ⟨#[10]⟩ (340 + x) w5 (by decide) (by omega)
    rw [show ((340 + x : Nat) : Int) = 340 + (x : Int) from by omega] at hm2
    clear h4 b4 g5
    go_wp2_with (go_at_call 80; refine hm2.mono ?_)
    rintro e w5 ⟨u2, hu2, rfl, rfl⟩
    have hu2' : u2.size ≤ 1000 := by rw [hu2]; show 1 * (340 + x) ≤ 1000; omega
    clear hm2 hu2
    go_wp2
    go_ret
    exact ⟨_, by rw [ByteArray.size_append]; omega, rfl, b5⟩
  · have e0 : ((y : Int) == 0) = false := by rw [beq_eq_false_iff_ne]; omega
    have e1 : ((y : Int) == 1) = false := by rw [beq_eq_false_iff_ne]; omega
    have e2 : ((y : Int) == 2) = false := by rw [beq_eq_false_iff_ne]; omega
    have e3 : ((y : Int) == 3) = false := by rw [beq_eq_false_iff_ne]; omega
    have e4 : ((y : Int) == 4) = false := by rw [beq_eq_false_iff_ne]; omega
    go_wp2
    go_ret
    exact ⟨s, by omega, rfl, b4⟩
end Go.Proofs.YtpdahhnjhggocaaGreatDoor
