import Derived.Test.YtpdahhnjhggocaaGreatDoorBun39
import Derived.Test.YtpdahhnjhggocaaGreatDoorBun36
import Derived.Test.YtpdahhnjhggocaaGreatDoorBun33
import Derived.Test.YtpdahhnjhggocaaGreatDoorBun31
import Derived.Test.YtpdahhnjhggocaaGreatDoorBun26
import Derived.Test.YtpdahhnjhggocaaGreatDoorBun22
namespace Go.Proofs.YtpdahhnjhggocaaGreatDoor
open Go.RowKit
structure DrawF (B p : Nat) (w : World) (n : Nat) (T : List (Nat × List ByteArray)) (W : World) : Prop where
  rd : Rd B W p n
  gr : w.grownBy W (some p)
  plt : p < w.heap.size
  tabs : ∀ x ∈ T, W.heap[x.1]? = some (.cells (x.2.map Value.string).toArray 9 (0, 0)) ∧ p < x.1
theorem DrawF.start {B p n : Nat} {w : World} (h : Rd B w p n) : DrawF B p w n [] w.drew := ⟨h, ⟨rfl, rfl, rfl, Nat.le_refl _, fun _ _ _ => rfl⟩, h.lt, by simp⟩
theorem DrawF.pick {B p n n' : Nat} {w W W' : World} {T : List (Nat × List ByteArray)} (h : DrawF B p w n T W) (hg : W.grownBy W' (some p)) (hr : Rd B W' p n') : DrawF B p w n' T W' :=
  ⟨hr, grown_trans h.gr hg, h.plt, fun x hx => ⟨by rw [hg.block x.1 (Array.getElem?_eq_some_iff.1 (h.tabs x hx).1).1 (by intro e; cases e; exact absurd (h.tabs x hx).2 (Nat.lt_irrefl _))]; exact (h.tabs x hx).1, (h.tabs x hx).2⟩⟩
theorem DrawF.alloc {B p n : Nat} {w W : World} {T : List (Nat × List ByteArray)} (h : DrawF B p w n T W) (o : Obj) : DrawF B p w n T (W.alloc o) :=
  ⟨h.rd.below ((Below.refl _ _).alloc (Nat.le_refl _) _), grown_trans h.gr (grown_but (World.grownBy_alloc _ _ _) _), h.plt, fun x hx => ⟨by rw [alloc_there _ _ _ (Array.getElem?_eq_some_iff.1 (h.tabs x hx).1).1]; exact (h.tabs x hx).1, (h.tabs x hx).2⟩⟩
theorem DrawF.tab {B p n : Nat} {w W : World} {T : List (Nat × List ByteArray)} (h : DrawF B p w n T W) (l : List ByteArray) : DrawF B p w n ((W.heap.size, l) :: T) (W.alloc (.cells (l.map Value.string).toArray 9)) := by
  have h1 := h.alloc (.cells (l.map Value.string).toArray 9)
  refine ⟨h1.rd, h1.gr, h1.plt, fun x hx => ?_⟩
  rcases List.mem_cons.1 hx with rfl | hx
  · exact ⟨alloc_here _ _, Nat.lt_of_lt_of_le h.plt h.gr.size⟩
  · exact h1.tabs x hx
theorem DrawF.less {B p n : Nat} {w W : World} {T : List (Nat × List ByteArray)} {x : Nat × List ByteArray} (h : DrawF B p w n (x :: T) W) : DrawF B p w n T W := ⟨h.rd, h.gr, h.plt, fun y hy => h.tabs y (List.mem_cons_of_mem _ hy)⟩
theorem DrawF.cell {B p n : Nat} {w W : World} {T : List (Nat × List ByteArray)} (h : DrawF B p w n T W) {t : Nat} {l : List ByteArray} (hx : (t, l) ∈ T) (y : Nat) (hy : y < l.length) : W.cell? ⟨t, y, none⟩ = some (.string l[y]) := by
  rw [cell_of_block (h.tabs _ hx).1 y]
  simp [hy]
def SmallK (b : BAt) : Prop := b.kind.size ≤ 20 ∧ ∀ x ∈ b.ls, x.key.size ≤ 20
theorem kind_small {k : ByteArray} (h : 1 ≤ (rulesOf k).length) : k.size ≤ 20 := by
  have e : k.size = k.toList.length := by rw [ByteArray.toList_eq]; simp
  rw [e]
  unfold rulesOf at h
  split at h
  · rename_i h1; rw [h1]; decide
  · split at h
    · rename_i h1; rw [h1]; decide
    · split at h
      · rename_i h1; rw [h1]; decide
      · simp at h
theorem key_small {k : ByteArray} {z : Plain} (h : z ∈ rulesOf k) : z.1.size ≤ 20 := by
  unfold rulesOf at h
  split at h
  · exact (show ∀ z ∈ teamRules, z.1.size ≤ 20 by decide) z h
  · split at h
    · exact (show ∀ z ∈ berthRules, z.1.size ≤ 20 by decide) z h
    · split at h
      · exact (show ∀ z ∈ serviceRules, z.1.size ≤ 20 by decide) z h
      · cases h
def DrawnB (B p k : Nat) (w : World) (e : Ending) (w' : World) : Prop := ∃ (b : BAt) (k' : Nat), e = .returned (.agg #[.string b.kind, .string b.name, b.v]) ∧ k' ≤ k + 100 ∧ Rd B w' p k' ∧ w.grownBy w' (some p) ∧ (LinesIn w' b.v b.ls ∧ ∀ q, q < w.heap.size → LinesFar q b.v b.ls) ∧ b.name.size ≤ 4 ∧ b.ls.length ≤ 7 ∧ (∀ x ∈ b.ls, x.ws.length ≤ 3 ∧ ∀ y ∈ x.ws, y.length ≤ 200) ∧ SmallK b
def BoxB (B p k : Nat) (w1 : World) (q : Value) (wx : World) : Prop := ∃ (R : Nat) (kind name : ByteArray), q = .pointer (some ⟨R, 0, none⟩) ∧ wx.heap[R]? = some (.cells #[.string kind, .string name, .slice none 0 0] 46 (0, 0)) ∧ (1 ≤ (rulesOf kind).length ∧ name.size ≤ 4 ∧ w1.heap.size ≤ R) ∧ Rd B wx p (k + 2) ∧ w1.grownBy wx (some p)
def kinds4 : List ByteArray := [⟨#[116, 101, 97, 109]⟩, ⟨#[98, 101, 114, 116, 104]⟩, ⟨#[115, 101, 114, 118, 105, 99, 101]⟩, ⟨#[115, 101, 114, 118, 105, 99, 101]⟩]
def names4 : List ByteArray := [⟨#[97]⟩, ⟨#[98]⟩, ⟨#[119, 101, 98]⟩, ⟨#[100, 98, 45, 49]⟩]
theorem kind4 (u : ByteArray) (h : u ∈ kinds4) : 1 ≤ (rulesOf u).length := by
  unfold kinds4 at h
  simp only [List.mem_cons, List.not_mem_nil, or_false] at h
  rcases h with rfl | rfl | rfl | rfl <;> simp [rulesOf, ByteArray.toList_eq, teamRules, berthRules, serviceRules]
theorem name4 (u : ByteArray) (h : u ∈ names4) : u.size ≤ 4 := by
  unfold names4 at h
  simp only [List.mem_cons, List.not_mem_nil, or_false] at h
  rcases h with rfl | rfl | rfl | rfl <;> decide
def TabAt (p : Nat) (W : World) (t : Nat) (l : List ByteArray) : Prop := W.heap[t]? = some (.cells (l.map Value.string).toArray 9 (0, 0)) ∧ p < t
def KeepP (p : Nat) (W W' : World) : Prop := ∀ t o, p < t → W.heap[t]? = some o → W'.heap[t]? = some o
theorem KeepP.grown {p : Nat} {W W' : World} (h : W.grownBy W' (some p)) : KeepP p W W' := fun t o ht ho => by
  rw [h.block t (Array.getElem?_eq_some_iff.1 ho).1 (by intro e; cases e; omega)]; exact ho
theorem KeepP.alloc (p : Nat) (W : World) (o : Obj) : KeepP p W (W.alloc o) := fun t o' _ ho => by rw [alloc_there _ _ _ (Array.getElem?_eq_some_iff.1 ho).1]; exact ho
theorem KeepP.refl (p : Nat) (W : World) : KeepP p W W := fun _ _ _ h => h
theorem TabAt.keep {p : Nat} {W W' : World} {t : Nat} {l : List ByteArray} (h : TabAt p W t l) (k : KeepP p W W') : TabAt p W' t l := ⟨k t _ h.2 h.1, h.2⟩
theorem TabAt.cell {p : Nat} {W : World} {t : Nat} {l : List ByteArray} (h : TabAt p W t l) {y : Nat} (hy : y < l.length) : ∃ u ∈ l, W.cell? ⟨t, y, none⟩ = some (.string u) := by
  refine ⟨l[y], List.getElem_mem _, ?_⟩
  rw [cell_of_block h.1 y]
  simp [hy]
def zeroB : Obj := .cells #[.string ⟨#[]⟩, .string ⟨#[]⟩, .slice none 0 0] 46 (0, 0)
def DbF (p : Nat) (w1 : World) (i : Nat) (x : Value) (W : World) : Prop := match i with
  | 0 => ∃ t, x = .slice (some ⟨t, 0, none⟩) 4 4 ∧ TabAt p W t kinds4
  | 1 => x = .pointer (some ⟨p, 0, none⟩)
  | 2 => ∃ y : Nat, y < 4 ∧ x = .int .i64 (y : Int)
  | 3 => ∃ t y : Nat, y < 4 ∧ x = .pointer (some ⟨t, y, none⟩) ∧ TabAt p W t kinds4
  | 4 => ∃ u ∈ kinds4, x = .string u
  | 5 => ∃ t, x = .slice (some ⟨t, 0, none⟩) 4 4 ∧ TabAt p W t names4
  | 6 => x = .pointer (some ⟨p, 0, none⟩)
  | 7 => ∃ y : Nat, y < 4 ∧ x = .int .i64 (y : Int)
  | 8 => ∃ t y : Nat, y < 4 ∧ x = .pointer (some ⟨t, y, none⟩) ∧ TabAt p W t names4
  | 9 => ∃ u ∈ names4, x = .string u
  | 10 => ∃ u ∈ kinds4, ∃ v ∈ names4, x = .agg #[.string u, .string v, .slice none 0 0]
  | 11 => ∃ R, x = .pointer (some ⟨R, 0, none⟩) ∧ W.heap[R]? = some zeroB ∧ w1.heap.size ≤ R ∧ p < R
  | _ => True
theorem DbF.keep {p : Nat} {w1 W W' : World} (k : KeepP p W W') : ∀ (i : Nat) (x : Value), DbF p w1 i x W → DbF p w1 i x W' := by
  intro i x h
  unfold DbF at *
  split <;> simp only at h
  · obtain ⟨t, e, ht⟩ := h; exact ⟨t, e, ht.keep k⟩
  · exact h
  · exact h
  · obtain ⟨t, y, hy, e, ht⟩ := h; exact ⟨t, y, hy, e, ht.keep k⟩
  · exact h
  · obtain ⟨t, e, ht⟩ := h; exact ⟨t, e, ht.keep k⟩
  · exact h
  · exact h
  · obtain ⟨t, y, hy, e, ht⟩ := h; exact ⟨t, y, hy, e, ht.keep k⟩
  · exact h
  · exact h
  · obtain ⟨R, e, h1, h2, h3⟩ := h; exact ⟨R, e, k R _ h3 h1, h2, h3⟩
  · trivial
def DbG (B p k : Nat) (w1 : World) (L : Nat → Bool) (W : World) : Prop := Rd B W p (k + (if L 2 = true then 1 else 0) + (if L 7 = true then 1 else 0)) ∧ (L 7 = true → L 2 = true) ∧ w1.grownBy W (some p)
structure DbS (B p : Nat) (w1 : World) (R : Nat) (kk : Nat) (b : BAt) (W : World) : Prop where
  rd : Rd B W p kk
  gr : w1.grownBy W (some p)
  box : W.heap[R]? = some (.cells #[.string b.kind, .string b.name, b.v] 46 (0, 0))
  Rge : w1.heap.size ≤ R
  plt : p < w1.heap.size
  lin : LinesIn W b.v b.ls
  abv : ∀ q, q < w1.heap.size → LinesFar q b.v b.ls
  farR : LinesFar R b.v b.ls
  small : ∀ x ∈ b.ls, (∃ z ∈ rulesOf b.kind, z.1 = x.key) ∧ x.ws.length ≤ 3 ∧ ∀ y ∈ x.ws, y.length ≤ 200
theorem DbS.Rlt {B p R kk : Nat} {w1 W : World} {b : BAt} (h : DbS B p w1 R kk b W) : R < W.heap.size := (Array.getElem?_eq_some_iff.1 h.box).1
theorem DbS.grown {B p R kk kk' : Nat} {w1 W W' : World} {b : BAt} (h : DbS B p w1 R kk b W) (g : W.grownBy W' (some p)) (r : Rd B W' p kk') : DbS B p w1 R kk' b W' :=
  ⟨r, grown_trans h.gr g, KeepP.grown g R _ (Nat.lt_of_lt_of_le h.plt h.Rge) h.box, h.Rge, h.plt, h.lin.far (h.abv p h.plt) g, h.abv, h.farR, h.small⟩
theorem DbS.below {B p R kk : Nat} {w1 W W' : World} {b : BAt} (h : DbS B p w1 R kk b W) (hb : Below W.heap.size W W') : DbS B p w1 R kk b W' :=
  ⟨h.rd.below hb, grown_trans h.gr (grown_of_below hb _), by rw [hb.block R h.Rlt]; exact h.box, h.Rge, h.plt, h.lin.below hb, h.abv, h.farR, h.small⟩
theorem DbS.put {B p R kk : Nat} {w1 W : World} {b : BAt} (h : DbS B p w1 R kk b W) {v' : Value} {ls' : List LAt} (hl : LinesIn W v' ls') (fp : ∀ q, q < w1.heap.size → LinesFar q v' ls') (fR : LinesFar R v' ls') (hs : ∀ x ∈ ls', (∃ z ∈ rulesOf b.kind, z.1 = x.key) ∧ x.ws.length ≤ 3 ∧ ∀ y ∈ x.ws, y.length ≤ 200) : DbS B p w1 R kk ⟨b.kind, b.name, v', ls'⟩ (W.setRow R #[.string b.kind, .string b.name, v']) := by
  have gs := grown_setRow W R #[.string b.kind, .string b.name, v']
  have hpR := Nat.lt_of_lt_of_le h.plt h.Rge
  refine ⟨Kept.rd h.rd (Kept.of_grown (S := [R]) gs (fun g hg => by cases hg; simp)) (fun i hi => by rw [List.mem_singleton.1 hi]; exact hpR), ⟨h.gr.os, h.gr.tape, h.gr.output, by rw [setRow_size]; exact h.gr.size, fun i hi hne => ?_⟩, setRow_heap _ _ _ _ _ _ h.box, h.Rge, h.plt, hl.far fR gs, fp, fR, hs⟩
  have := h.Rge
  rw [setRow_other _ _ _ _ (by omega)]; exact h.gr.block i hi hne
theorem DbS.out {B p R kk k s : Nat} {w w1 W : World} {b : BAt} (h : DbS B p w1 R kk b W) (hs : s = w.heap.size) (hs1 : w1.heap.size = w.heap.size + 1) (hw : w.grownBy w1 (some p)) (hp : p < w.heap.size) (hk : kk ≤ k + 100) (hl : b.ls.length ≤ 7) (hn : b.name.size ≤ 4) (hkd : 1 ≤ (rulesOf b.kind).length) (cs : Array Value) : DrawnB B p k w (.returned (.agg #[.string b.kind, .string b.name, b.v])) (W.setRow s cs) := by
  subst hs
  have gs := grown_setRow W w.heap.size cs
  refine ⟨b, kk, rfl, hk, Kept.rd h.rd (Kept.of_grown (S := [w.heap.size]) gs (fun g hg => by cases hg; simp)) (fun i hi => by rw [List.mem_singleton.1 hi]; exact hp), ⟨h.gr.os.trans hw.os, h.gr.tape.trans hw.tape, h.gr.output.trans hw.output, ?_, fun i hi hne => ?_⟩, ⟨h.lin.far (h.abv _ (by omega)) gs, fun q hq => h.abv q (by omega)⟩, hn, hl, fun x hx => (h.small x hx).2, kind_small hkd, fun x hx => by obtain ⟨⟨z, hz, e⟩, _⟩ := h.small x hx; rw [← e]; exact key_small hz⟩
  · rw [setRow_size]; have := h.gr.size; omega
  · rw [setRow_other _ _ _ _ (by omega), h.gr.block i (by omega) hne]; exact hw.block i hi hne
def LoopB (B p k : Nat) (w1 : World) (R : Nat) (kind name : ByteArray) (i : Value) (W : World) : Prop := ∃ (m kk : Nat) (b : BAt), i = .int .i64 (m : Int) ∧ m ≤ 7 ∧ b.ls.length + m ≤ 7 ∧ kk + 10 * m ≤ k + 73 ∧ b.kind = kind ∧ b.name = name ∧ DbS B p w1 R kk b W
set_option maxHeartbeats 16000000 in
set_option maxRecDepth 100000 in
theorem l3DrawBlock_any (B p k : Nat) (w : World) (h : Rd B w p k) (hk : k ≤ 700000) : Calls Tryz.prog 106 #[.pointer (some ⟨p, 0, none⟩)] w fun e w' => DrawnB B p k w e w' := by
  have hp := h.lt
  have hr1 : Rd B (w.alloc (.cells #[.string ⟨#[]⟩, .string ⟨#[]⟩, .slice none 0 0] 46)) p k := h.below ((Below.refl _ _).alloc (Nat.le_refl _) _)
  have G1 : w.grownBy (w.alloc (.cells #[.string ⟨#[]⟩, .string ⟨#[]⟩, .slice none 0 0] 46)) (some p) := grown_but (World.grownBy_alloc _ _ _) _
  have z1 := alloc_here w (.cells #[.string ⟨#[]⟩, .string ⟨#[]⟩, .slice none 0 0] 46)
  have s1 : (w.alloc (.cells #[.string ⟨#[]⟩, .string ⟨#[]⟩, .slice none 0 0] 46)).heap.size = w.heap.size + 1 := by simp
  generalize hw1 : w.alloc (.cells #[.string ⟨#[]⟩, .string ⟨#[]⟩, .slice none 0 0] 46) = w1 at *
  have ew1 := hid_in hw1
  clear hw1
  go_enter Tryz.func106, Tryz.ntmps106
  go_upto_region 1 with fail
  rw [ew1.out]
  go_cut [3] from 8 to 18 (fun q wx => BoxB B p k w1 q wx)
  case first =>
    have HPK := fun n (hn : n ≤ k + 1) W (hW : Rd B W p n) => pick_any B p n 4 W hW (by omega) (by omega) (by omega)
    have hp1 : p < w1.heap.size := by omega
    refine wp_region_inv (InvG (fun v => ⟨#[.pointer (some ⟨p, 0, none⟩), undef, .pointer (some ⟨w.heap.size, 0, none⟩), v 11, undef, undef, undef, undef, v 0, v 1, v 2, v 3, v 4, v 5, v 6, v 7, v 8, v 9, v 10, undef, undef, undef, undef, undef, undef, undef, undef, undef, undef, undef, undef, undef, undef, undef, undef, undef, undef, undef, undef, undef, undef, undef, undef, undef, undef, undef, undef, undef, undef, undef, undef, undef, undef, undef, undef, undef, undef, undef], []⟩) (DbF p w1) (DbG B p k w1)) 12 13 [0, 1, 2, 3, 4, 5, 6, 7, 8, 9, 10, 11, 12] (by kernel_rfl) rfl (by decide) (by kernel_rfl) ?_ ?_
    · exact ⟨fun _ => undef, rfl, fun i hi => by
        have : 13 ≤ i := by simpa using hi
        unfold DbF
        split <;> first | omega | trivial, ⟨hr1, fun h => h, ⟨rfl, rfl, rfl, Nat.le_refl _, fun _ _ _ => rfl⟩⟩⟩
    · refine AllInv.cons [] rfl (by decide) (by kernel_rfl) ?o0 (AllInv.cons [] rfl (by decide) (by kernel_rfl) ?o1 (AllInv.cons [1] rfl (by decide) (by kernel_rfl) ?o2 (AllInv.cons [0, 2] rfl (by decide) (by kernel_rfl) ?o3 (AllInv.cons [3] rfl (by decide) (by kernel_rfl) ?o4 (AllInv.cons [] rfl (by decide) (by kernel_rfl) ?o5 (AllInv.cons [] rfl (by decide) (by kernel_rfl) ?o6 (AllInv.cons [6, 2] rfl (by decide) (by kernel_rfl) ?o7 (AllInv.cons [5, 7] rfl (by decide) (by kernel_rfl) ?o8 (AllInv.cons [8] rfl (by decide) (by kernel_rfl) ?o9 (AllInv.cons [4, 9] rfl (by decide) (by kernel_rfl) ?o10 (AllInv.cons [] rfl (by decide) (by kernel_rfl) ?o11 (AllInv.last [11, 10, 7, 0, 1, 2, 3, 4, 5, 6, 7, 8, 9, 10, 11] rfl (by kernel_rfl) ?o12))))))))))))
      case o0 =>
        rintro L _ W h0 hpre ⟨v, rfl, hv, hr, hc, hg⟩ K hK
        go_simp
        refine hK.out _ _ (InvG.next hv 0 _ rfl (DbF.keep (KeepP.alloc _ _ _)) ⟨_, rfl, alloc_here _ _, Nat.lt_of_lt_of_le hp1 hg.size⟩ ⟨?_, by simpa [upd] using hc, grown_trans hg (grown_but (World.grownBy_alloc _ _ _) _)⟩)
        simpa [upd] using hr.below ((Below.refl _ _).alloc (Nat.le_refl _) _)
      case o1 =>
        rintro L _ W h0 hpre ⟨v, rfl, hv, hr, hc, hg⟩ K hK
        go_simp
        exact hK.out _ _ (InvG.next hv 1 _ rfl (DbF.keep (KeepP.refl _ _)) rfl ⟨by simpa [upd] using hr, by simpa [upd] using hc, hg⟩)
      case o2 =>
        rintro L _ W h0 hpre ⟨v, rfl, hv, hr, hc, hg⟩ K hK
        have e1 : v 1 = .pointer (some ⟨p, 0, none⟩) := hv 1 (hpre 1 (by simp))
        have h7 : L 7 = false := by
          cases h7 : L 7
          · rfl
          · have := hc h7; rw [h0] at this; cases this
        simp only [h0, h7, Bool.false_eq_true, if_false, Nat.add_zero] at hr
        go_simp
        go_wp2_with (go_at_call 44; refine (HPK _ (by omega) _ hr).mono ?_; rintro e W' ⟨y, hy, rfl, hr', hg'⟩)
        exact hK.out _ _ (InvG.next hv 2 _ (by simp [e1]) (DbF.keep (KeepP.grown hg')) ⟨y, hy, rfl⟩ ⟨by simpa [upd, h7] using hr', by simp [upd, h7], grown_trans hg hg'⟩)
      case o3 =>
        rintro L _ W h0 hpre ⟨v, rfl, hv, hr, hc, hg⟩ K hK
        obtain ⟨t, e0, ht⟩ := hv 0 (hpre 0 (by simp))
        obtain ⟨y, hy, e2⟩ := hv 2 (hpre 2 (by simp))
        have y0 : (0 : Int) ≤ (y : Int) := by omega
        have y4 : (y : Int) < 4 := by omega
        go_simp
        exact hK.out _ _ (InvG.next hv 3 _ (by simp [e0, e2]) (DbF.keep (KeepP.refl _ _)) ⟨t, y, hy, rfl, ht⟩ ⟨by simpa [upd] using hr, by simpa [upd] using hc, hg⟩)
      case o4 =>
        rintro L _ W h0 hpre ⟨v, rfl, hv, hr, hc, hg⟩ K hK
        obtain ⟨t, y, hy, e3, ht⟩ := hv 3 (hpre 3 (by simp))
        obtain ⟨u, hu, hcell⟩ := ht.cell (show y < kinds4.length from hy)
        go_simp
        exact hK.out _ _ (InvG.next hv 4 _ (by simp [e3]) (DbF.keep (KeepP.refl _ _)) ⟨u, hu, rfl⟩ ⟨by simpa [upd] using hr, by simpa [upd] using hc, hg⟩)
      case o5 =>
        rintro L _ W h0 hpre ⟨v, rfl, hv, hr, hc, hg⟩ K hK
        go_simp
        refine hK.out _ _ (InvG.next hv 5 _ rfl (DbF.keep (KeepP.alloc _ _ _)) ⟨_, rfl, alloc_here _ _, Nat.lt_of_lt_of_le hp1 hg.size⟩ ⟨?_, by simpa [upd] using hc, grown_trans hg (grown_but (World.grownBy_alloc _ _ _) _)⟩)
        simpa [upd] using hr.below ((Below.refl _ _).alloc (Nat.le_refl _) _)
      case o6 =>
        rintro L _ W h0 hpre ⟨v, rfl, hv, hr, hc, hg⟩ K hK
        go_simp
        exact hK.out _ _ (InvG.next hv 6 _ rfl (DbF.keep (KeepP.refl _ _)) rfl ⟨by simpa [upd] using hr, by simpa [upd] using hc, hg⟩)
      case o7 =>
        rintro L _ W h0 hpre ⟨v, rfl, hv, hr, hc, hg⟩ K hK
        have e1 : v 6 = .pointer (some ⟨p, 0, none⟩) := hv 6 (hpre 6 (by simp))
        have h2 : L 2 = true := hpre 2 (by simp)
        simp only [h0, h2, Bool.false_eq_true, if_false, if_true, Nat.add_zero] at hr
        go_simp
        go_wp2_with (go_at_call 44; refine (HPK _ (by omega) _ hr).mono ?_; rintro e W' ⟨y, hy, rfl, hr', hg'⟩)
        exact hK.out _ _ (InvG.next hv 7 _ (by simp [e1]) (DbF.keep (KeepP.grown hg')) ⟨y, hy, rfl⟩ ⟨by simpa [upd, h2] using hr', by simp [upd, h2], grown_trans hg hg'⟩)
      case o8 =>
        rintro L _ W h0 hpre ⟨v, rfl, hv, hr, hc, hg⟩ K hK
        obtain ⟨t, e0, ht⟩ := hv 5 (hpre 5 (by simp))
        obtain ⟨y, hy, e2⟩ := hv 7 (hpre 7 (by simp))
        have y0 : (0 : Int) ≤ (y : Int) := by omega
        have y4 : (y : Int) < 4 := by omega
        go_simp
        exact hK.out _ _ (InvG.next hv 8 _ (by simp [e0, e2]) (DbF.keep (KeepP.refl _ _)) ⟨t, y, hy, rfl, ht⟩ ⟨by simpa [upd] using hr, by simpa [upd] using hc, hg⟩)
      case o9 =>
        rintro L _ W h0 hpre ⟨v, rfl, hv, hr, hc, hg⟩ K hK
        obtain ⟨t, y, hy, e3, ht⟩ := hv 8 (hpre 8 (by simp))
        obtain ⟨u, hu, hcell⟩ := ht.cell (show y < names4.length from hy)
        go_simp
        exact hK.out _ _ (InvG.next hv 9 _ (by simp [e3]) (DbF.keep (KeepP.refl _ _)) ⟨u, hu, rfl⟩ ⟨by simpa [upd] using hr, by simpa [upd] using hc, hg⟩)
      case o10 =>
        rintro L _ W h0 hpre ⟨v, rfl, hv, hr, hc, hg⟩ K hK
        obtain ⟨u, hu, e4⟩ := hv 4 (hpre 4 (by simp))
        obtain ⟨x, hx, e9⟩ := hv 9 (hpre 9 (by simp))
        go_simp
        exact hK.out _ _ (InvG.next hv 10 _ (by simp [e4, e9]) (DbF.keep (KeepP.refl _ _)) ⟨u, hu, x, hx, rfl⟩ ⟨by simpa [upd] using hr, by simpa [upd] using hc, hg⟩)
      case o11 =>
        rintro L _ W h0 hpre ⟨v, rfl, hv, hr, hc, hg⟩ K hK
        go_simp
        refine hK.out _ _ (InvG.next hv 11 _ rfl (DbF.keep (KeepP.alloc _ _ _)) ⟨_, rfl, alloc_here _ _, hg.size, Nat.lt_of_lt_of_le hp1 hg.size⟩ ⟨?_, by simpa [upd] using hc, grown_trans hg (grown_but (World.grownBy_alloc _ _ _) _)⟩)
        simpa [upd] using hr.below ((Below.refl _ _).alloc (Nat.le_refl _) _)
      case o12 =>
        rintro L _ W h0 hpre ⟨v, rfl, hv, hr, hc, hg⟩ K hK
        obtain ⟨R, e11, hz, hR, hpR⟩ := hv 11 (hpre 11 (by simp))
        obtain ⟨u, hu, x, hx, e10⟩ := hv 10 (hpre 10 (by simp))
        have h2 : L 2 = true := hpre 2 (by simp)
        have h7 : L 7 = true := hpre 7 (by simp)
        simp only [h2, h7, if_true] at hr
        rw [if_pos (by rfl)]
        refine wp_store_row 46 _ _ rfl R #[.string u, .string x, .slice none 0 0] e11 e10 46 _ hz (by kernel_rfl) rfl (by first | rfl | kernel_rfl) ?_
        refine hK.out _ _ (NoPanic.normal ?_)
        have gs : W.grownBy (W.setRow R #[.string u, .string x, .slice none 0 0]) (some R) := ⟨rfl, rfl, rfl, by rw [setRow_size]; exact Nat.le_refl _, fun i _ hi => setRow_other _ _ _ _ (fun e => hi (by rw [e]))⟩
        have hz5 : (W.setRow R #[.string u, .string x, .slice none 0 0]).heap[R]? = some (.cells #[.string u, .string x, .slice none 0 0] 46 (0, 0)) := setRow_heap _ _ _ _ _ _ hz
        have hr5 := Kept.rd hr (Kept.of_grown (S := [R]) gs (fun g hg => by cases hg; simp)) (fun i hi => by rw [List.mem_singleton.1 hi]; exact hpR)
        have hg5 : w1.grownBy (W.setRow R #[.string u, .string x, .slice none 0 0]) (some p) := ⟨hg.os, hg.tape, hg.output, by rw [setRow_size]; exact hg.size, fun i hi hne => by rw [setRow_other _ _ _ _ (by omega)]; exact hg.block i hi hne⟩
        clear hK K
        go_wp2_with fail
        go_meet
        exact ⟨R, u, x, e11, hz5, ⟨kind4 u hu, name4 x hx, hR⟩, hr5, hg5⟩
  case rest =>
    obtain ⟨R, kind, name, rfl, hbox, ⟨hkd, hnm, hRge⟩, hr2, hg2⟩ := hcut
    have hp1 : p < w1.heap.size := by omega
    have HS0 : DbS B p w1 R (k + 2) ⟨kind, name, .slice none 0 0, []⟩ wc := ⟨hr2, hg2, hbox, hRge, hp1, ⟨⟨rfl, none, 0, rfl, ⟨Nat.le_refl _, Nat.zero_le _⟩, .inl rfl⟩, by simp⟩, fun q _ => ⟨.inl rfl, by simp⟩, ⟨.inl rfl, by simp⟩, by simp⟩
    have HPK := pick_any B p (k + 2) 8 wc hr2 (by omega) (by omega) (by omega)
    clear hbox hr2 hg2
    go_wp2_with (go_at_call 44; refine HPK.mono ?_)
    rintro e w3 ⟨n0, hn0, rfl, hr3, hg3⟩
    have HS3 := hid_in (HS0.grown hg3 hr3)
    clear HPK HS0 hr3 hg3
    go_wp2
    go_loopw [4] (fun i wr => LoopB B p k w1 R kind name i wr) (fun i _ => (intOf i).toNat)
    case atStart => exact ⟨n0, k + 2 + 1, ⟨kind, name, .slice none 0 0, []⟩, rfl, by omega, by simp; omega, by omega, rfl, rfl, HS3.out⟩
    case round =>
      obtain ⟨m, kk, b, rfl, hm7, hlm, hkk, hbk, hbn, HS⟩ := hrel
      obtain ⟨la, lc, eb⟩ := HS.lin.1.form
      obtain ⟨bk, bn, bv, bl⟩ := b
      simp only at hbk hbn eb hlm
      subst hbk hbn eb
      have k0 := cell_of_block HS.box 0
      have k1 := cell_of_block HS.box 1
      have k2 := cell_of_block HS.box 2
      simp only [List.getElem?_toArray, List.getElem?_cons_zero, List.getElem?_cons_succ] at k0 k1 k2
      cases m with
      | zero =>
        have zW : wr.heap[w.heap.size]? = some (.cells #[.string ⟨#[]⟩, .string ⟨#[]⟩, .slice none 0 0] 46 (0, 0)) := by rw [HS.gr.block w.heap.size (by omega) (by intro e; cases e; omega)]; exact z1
        have HO := hid_in (HS.out (k := k) rfl s1 G1 hp (by omega) (by simp only; omega) hnm hkd #[.string bk, .string bn, .slice la bl.length lc])
        clear HS HS3
        generalize bl.length = nl at *
        go_wp2_with (with_reducible show wpList _ _ _ (Oper.mk _ (Op.store _ (Operand.tmp 2) _) _ _ _ _ :: _) _ _; refine wpList_store_row rfl 46 _ _ rfl w.heap.size #[.string bk, .string bn, .slice la nl lc] ?_ ?_ 46 _ zW ?_ ?_ ?_ ?_)
        all_goals (first | rfl | kernel_rfl | exact ⟨rfl, rfl, rfl⟩ | (obtain ⟨i9, e9, _, s9, _⟩ := info_parts infoBlock; exact ⟨i9, e9, s9⟩) | skip)
        have z5 : (wr.setRow w.heap.size #[.string bk, .string bn, .slice la nl lc]).heap[w.heap.size]? = some (.cells #[.string bk, .string bn, .slice la nl lc] 46 (0, 0)) := setRow_heap _ _ _ _ _ _ zW
        have y0 := cell_of_block z5 0
        have y1 := cell_of_block z5 1
        have y2 := cell_of_block z5 2
        simp only [List.getElem?_toArray, List.getElem?_cons_zero, List.getElem?_cons_succ] at y0 y1 y2
        generalize wr.setRow w.heap.size #[.string bk, .string bn, .slice la nl lc] = W at HO y0 y1 y2 z5 ⊢
        exact bodyPost_ret (v := .agg #[.string bk, .string bn, .slice la nl lc]) (by simp [results, Tryz.results106, go_sem, y0, y1, y2]) rfl HO.out
      | succ m =>
        have hm1 : ((m + 1 : Nat) : Int) > 0 := by omega
        have HL := l2Line_any B p kk bk wr HS.rd (by omega) hkd
        have HSH := hid_in HS
        have hRr := HS.Rlt
        have hw1r := HS.gr.size
        have hsm : LinesSmall bl := ⟨by omega, fun x hx => ⟨Nat.le_trans (HS.small x hx).2.1 (by decide), fun y hy => Nat.le_trans ((HS.small x hx).2.2 y hy) (by decide)⟩⟩
        have hSM := hid_in hsm
        clear HS HS3 hsm
        go_wp2_with (go_at_call 165; refine HL.mono ?_)
        rintro e w2 ⟨key, xo, xc, k3, ws, hkey, rfl, o3, hw3, hws, hk3, h3, g3⟩
        have HS2 := HSH.out.grown g3 h3
        have hg3 := g3.size
        have bx := (Below.refl w2.heap.size w2).alloc (Nat.le_refl _) (.cells #[.string key, .slice xo ws.length xc] 115)
        have HSX := HS2.below bx
        have HXR := hid_in (own_below o3 bx)
        have HKEY := hid_in hkey
        have HWS := hid_in hws
        have j0 := cell_of_block HSX.box 0
        have j1 := cell_of_block HSX.box 1
        have j2 := cell_of_block HSX.box 2
        have xb := alloc_here w2 (.cells #[.string key, .slice xo ws.length xc] 115)
        have l0 := cell_of_block xb 0
        have l1 := cell_of_block xb 1
        simp only [List.getElem?_toArray, List.getElem?_cons_zero, List.getElem?_cons_succ] at j0 j1 j2 l0 l1
        have hz2 : w2.heap.size < (w2.alloc (.cells #[.string key, .slice xo ws.length xc] 115)).heap.size := by simp
        have hRx : R < w2.heap.size := HS2.Rlt
        have hwr2 : wr.heap.size ≤ w2.heap.size := hg3
        have HK := l3Key_any (b := ⟨bk, bn, .slice la bl.length lc, bl⟩) (x := ⟨key, .slice xo ws.length xc, ws⟩) HSX.lin hSM.out (own_has HXR.out) (by simp only; omega)
        have HSXH := hid_in HSX
        clear HL HS2 HSX o3 hkey hws g3 h3 bx HSH
        generalize keyN _ _ = nK at HK
        generalize sameN _ _ = sK at HK
        generalize hnl : bl.length = nl at *
        have enl := hid_in hnl
        clear hnl
        generalize hnw : ws.length = nw at *
        have enw := hid_in hnw
        clear hnw
        generalize hw2x : w2.alloc (.cells #[.string key, .slice xo nw xc] 115) = w2x at *
        go_wp2_with (go_at_call 155; (try rw [hw2x]); refine HK.mono ?_)
        rintro e w5 ⟨rfl, b5⟩
        have hz5 := b5.size
        have HS5 := hid_in (HSXH.out.below b5)
        have HX5 := hid_in (own_below HXR.out b5)
        have m0 := (b5.cell (World.block_lt_of_cell? _ _ j0)).trans j0
        have m1 := (b5.cell (World.block_lt_of_cell? _ _ j1)).trans j1
        have m2 := (b5.cell (World.block_lt_of_cell? _ _ j2)).trans j2
        have n0' := (b5.cell (World.block_lt_of_cell? _ _ l0)).trans l0
        have n1' := (b5.cell (World.block_lt_of_cell? _ _ l1)).trans l1
        obtain ⟨z, hzR, hzk⟩ := HKEY.out
        have hpick : pickR (rulesOf bk) key = some z := by rw [← hzk]; exact pick_of (rulesOf_nodupK bk) hzR
        obtain ⟨P, hP1, HSR⟩ := ruleGot hpick
        have HPL : ∀ W, Calls Tryz.prog 90 #[.string bk, .string key] W fun e w' => e = .returned (.int .i64 (P : Int)) ∧ Below W.heap.size W w' := by
          intro W
          have := l2Place_any bk key W
          rw [hP1] at this
          exact this
        clear HK j0 j1 j2 l0 l1 HXR HSXH hpick hP1 xb hw2x
        go_upto_region 7 with fail
        go_cut [53] from 35 to 53 (fun c wx => (∃ C : Bool, c = .bool C) ∧ Below w5.heap.size w5 wx)
        case first =>
          have v0 := fun p : Gr w5 => gr_cell m0 p
          have v1 := fun p : Gr w5 => gr_cell n0' p
          clear HS5 HX5 HKEY HWS hSM m0 m1 m2 n0' n1' hzR
          by_cases hs0 : sK = 0
          · subst hs0
            by_cases hn0' : nK = 0
            · subst hn0'
              refine wp_region_gr (by kernel_rfl) (by kernel_rfl) ?_
              iterate 6 quiet_step (fail)
              iterate 11 (with_reducible refine quiet_skip ?_ ?_; kernel_rfl; simp only [Act.put, List.setIfInBounds_toArray, List.set_cons_zero, List.set_cons_succ])
              iterate 2 quiet_step (fail)
              refine wpQuiet_nil ?_
              rintro _ ⟨⟨wq, bq⟩, rfl⟩
              go_wp2_with fail
              go_meet
              exact ⟨⟨_, rfl⟩, bq⟩
            · have hnn : ((nK : Int) == 0) = false := by rw [beq_eq_false_iff_ne]; omega
              refine wp_region_upM 19 19 (by kernel_rfl) rfl ?_
              refine wpUp_mask [true, true, true, true, true, true, true, true, false, true, true, true, true, false, false, false, false, false, false] 7 rfl (by kernel_rfl) ?_
              simp only [maskL_t, maskL_f, maskL_n]
              iterate 12 (refine wpQuietU_step (fun K hK => ?_); go_simp; refine hK _ ?_; clear hK K)
              refine wpQuietU_nil ?_
              refine wpUp_branch (f := 6) (rs := [8]) (by kernel_rfl) (by simp) ?_
              rintro ⟨wp, bp⟩
              refine AllUp.cons rfl (by decide) (fun K hK => ?_) AllUp.nil
              go_simp
              go_wp2_with (go_at_call 56; refine (HSR _).mono ?_; rintro e w7 ⟨g7, m7, c7, key7, av, nv, cv, ad, cd, rfl, hm7, hc7, hr7, b7⟩)
              refine hK.out _ _ b7 ?_
              clear hK K
              have t2 := fun p : Gr w7 => gr_cell hc7.2.2.1 p
              have HQ7 : ∀ p : Gr w7, Calls Tryz.prog 90 #[.string bk, .string key] p.u fun e w' => e = .returned (.int .i64 (P : Int)) ∧ Below p.u.heap.size p.u w' := fun p => HPL p.u
              obtain ⟨hm71, hm72⟩ := hm7
              refine wpUp_mask [false, false, false, false, false, false, false, false, false, false, false, false, false, true, true, true, true, true, true] 0 rfl (by kernel_rfl) ?_
              simp only [maskL_t, maskL_f, maskL_n]
              refine wpQuietU_step (fun K hK => ?_)
              go_simp
              apply Exists.intro
              refine ⟨fun _ => ?_, hK _ ?_⟩
              go_at_call 90
              exact HQ7 _
              clear hK K
              iterate 5 (refine wpQuietU_step (fun K hK => ?_); go_simp; refine hK _ ?_; clear hK K)
              refine wpQuietU_nil ?_
              refine wpUp_done (by kernel_rfl) ?_ 0
              rintro ⟨wz, bz⟩
              refine NoPanic.normal ?_
              go_wp2_with fail
              go_meet
              exact ⟨⟨_, rfl⟩, bp.trans ((b7.trans (bz.mono b7.size)).mono bp.size)⟩
          · have hss : ((sK : Int) == 0) = false := by rw [beq_eq_false_iff_ne]; omega
            refine wp_region_gr (by kernel_rfl) (by kernel_rfl) ?_
            iterate 3 quiet_step (fail)
            iterate 15 (with_reducible refine quiet_skip ?_ ?_; kernel_rfl; simp only [Act.put, List.setIfInBounds_toArray, List.set_cons_zero, List.set_cons_succ])
            quiet_step (fail)
            refine wpQuiet_nil ?_
            rintro _ ⟨⟨wq, bq⟩, rfl⟩
            go_wp2_with fail
            go_meet
            exact ⟨⟨_, rfl⟩, bq⟩
        case rest =>
          obtain ⟨w7, hw7⟩ : ∃ w7, w7 = wc := ⟨_, rfl⟩
          subst hw7
          obtain ⟨⟨C, rfl⟩, b7⟩ := hcut
          have hz7 := b7.size
          have HS7 := hid_in (HS5.out.below b7)
          have HX7 := hid_in (own_below HX5.out b7)
          clear HSR HPL
          cases C
          · clear m0 m1 m2 n0' n1' HS5 HX5
            go_wp2
            go_roundw
            case rel => exact ⟨m, k3, ⟨bk, bn, .slice la nl lc, bl⟩, by go_num, by omega, by have := enl.out; simp only; omega, by omega, rfl, rfl, HS7.out⟩
            case measure => simp [intOf]
          · have HP := l3PutLine_all (b := ⟨bk, bn, .slice la nl lc, bl⟩) (x := ⟨key, .slice xo nw xc, ws⟩) HS7.out.lin hSM.out (by have := own_has HX7.out; show HasRow _ _ _ _ _; rw [enw.out]; exact this) (by simp only; rw [enw.out]; omega)
            have q0 := (b7.cell (World.block_lt_of_cell? _ _ m0)).trans m0
            have q1 := (b7.cell (World.block_lt_of_cell? _ _ m1)).trans m1
            have q2 := (b7.cell (World.block_lt_of_cell? _ _ m2)).trans m2
            have q3 := (b7.cell (World.block_lt_of_cell? _ _ n0')).trans n0'
            have q4 := (b7.cell (World.block_lt_of_cell? _ _ n1')).trans n1'
            clear m0 m1 m2 n0' n1' HS5 HX5
            go_wp2_with (go_at_call 86; refine HP.mono ?_)
            rintro e w8 ⟨a8, n8, c8, ls8, rfl, h8, b8⟩
            have HS8 := HS7.out.below b8
            have hbox := HS8.box
            simp only at hbox
            have hfx : ∀ q, q < wr.heap.size → FarV q (.slice xo nw xc) ws.length := fun q hq => by rw [enw.out]; exact FarV.above HX7.out hq
            have HPT := hid_in (HS8.put (v' := .slice a8 n8 c8) (ls' := ls8) h8.2.2.2.1 (fun q hq => h8.2.2.2.2 q (by omega) (HS7.out.abv q hq) (hfx q (by omega))) (h8.2.2.2.2 R (by omega) HS7.out.farR (hfx R hRr)) (fun y hy => by
              rcases h8.2.2.1 y hy with rfl | hy
              · exact ⟨HKEY.out, by simp only; rw [enw.out]; exact hw3, HWS.out⟩
              · exact HS7.out.small y hy))
            have hlen8 : ls8.length = nl + 1 := by have := h8.2.1; have := enl.out; simp only at *; omega
            clear HP h8 HS8 HS7 HX7 q0 q1 q2 q3 q4
            go_wp2_with (with_reducible show wpList _ _ _ (Oper.mk _ (Op.store _ (Operand.tmp 3) _) _ _ _ _ :: _) _ _; refine wpList_store_row rfl 46 _ _ rfl R #[.string bk, .string bn, .slice a8 n8 c8] ?_ ?_ 46 _ hbox ?_ ?_ ?_ ?_)
            all_goals (first | rfl | kernel_rfl | exact ⟨rfl, rfl, rfl⟩ | (obtain ⟨i9, e9, _, s9, _⟩ := info_parts infoBlock; exact ⟨i9, e9, s9⟩) | skip)
            go_roundw
            case rel => exact ⟨m, k3, ⟨bk, bn, .slice a8 n8 c8, ls8⟩, by go_num, by omega, by simp only; omega, by omega, rfl, rfl, HPT.out⟩
            case measure => simp [intOf]
end Go.Proofs.YtpdahhnjhggocaaGreatDoor
namespace Go.Proofs.YtpdahhnjhggocaaGreatDoor
open Go.RowKit
def SmallB (b : BAt) : Prop := b.name.size ≤ 30 ∧ b.ls.length ≤ 7 ∧ ∀ x ∈ b.ls, x.ws.length ≤ 3 ∧ ∀ y ∈ x.ws, y.length ≤ 200
theorem SmallB.lines {b : BAt} (h : SmallB b) : LinesSmall b.ls := ⟨Nat.le_trans h.2.1 (by decide), fun x hx => ⟨Nat.le_trans (h.2.2 x hx).1 (by decide), fun y hy => Nat.le_trans ((h.2.2 x hx).2 y hy) (by decide)⟩⟩
theorem small_blocks {bs : List BAt} (hl : bs.length ≤ 1048576) (h : ∀ b ∈ bs, SmallB b) : BlocksSmall bs := ⟨hl, fun b hb => ⟨Nat.le_trans (h b hb).1 (by decide), (h b hb).lines⟩⟩
theorem SmallB.same {b c : BAt} (h : SmallB b) (e : c.plain = b.plain) : SmallB c := by
  have e1 : c.name = b.name := congrArg PBlock.name e
  have e2 : c.ls.map LAt.plain = b.ls.map LAt.plain := congrArg PBlock.lines e
  refine ⟨by rw [e1]; exact h.1, by have := congrArg List.length e2; simp at this; rw [this]; exact h.2.1, fun x hx => ?_⟩
  have : x.plain ∈ b.ls.map LAt.plain := e2 ▸ List.mem_map_of_mem hx
  obtain ⟨y, hy, ey⟩ := List.mem_map.1 this
  have e3 : y.ws = x.ws := congrArg PLine.ws ey
  rw [← e3]; exact h.2.2 y hy
theorem smallB_same {bs cs : List BAt} (h : ∀ b ∈ bs, SmallB b) (e : cs.map BAt.plain = bs.map BAt.plain) : ∀ c ∈ cs, SmallB c := fun c hc => by
  have : c.plain ∈ bs.map BAt.plain := e ▸ List.mem_map_of_mem hc
  obtain ⟨b, hb, eb⟩ := List.mem_map.1 this
  exact (h b hb).same eb.symm
theorem SmallK.same {b c : BAt} (h : SmallK b) (e : c.plain = b.plain) : SmallK c := by
  have e1 : c.kind = b.kind := congrArg PBlock.kind e
  have e2 : c.ls.map LAt.plain = b.ls.map LAt.plain := congrArg PBlock.lines e
  refine ⟨by rw [e1]; exact h.1, fun x hx => ?_⟩
  have : x.plain ∈ b.ls.map LAt.plain := e2 ▸ List.mem_map_of_mem hx
  obtain ⟨y, hy, ey⟩ := List.mem_map.1 this
  have e3 : y.key = x.key := congrArg PLine.key ey
  rw [← e3]; exact h.2 y hy
theorem smallK_same {bs cs : List BAt} (h : ∀ b ∈ bs, SmallK b) (e : cs.map BAt.plain = bs.map BAt.plain) : ∀ c ∈ cs, SmallK c := fun c hc => by
  have : c.plain ∈ bs.map BAt.plain := e ▸ List.mem_map_of_mem hc
  obtain ⟨b, hb, eb⟩ := List.mem_map.1 this
  exact (h b hb).same eb.symm
structure DrS (B p : Nat) (w1 : World) (S : Nat) (kk : Nat) (v : Value) (bs : List BAt) (W : World) : Prop where
  rd : Rd B W p kk
  gr : w1.grownBy W (some p)
  box : W.heap[S]? = some (.cells #[v] 25 (0, 0))
  Sge : w1.heap.size ≤ S
  plt : p < w1.heap.size
  bin : BlocksIn W v bs
  abv : ∀ q, q < w1.heap.size → BlocksFar q v bs
  farS : BlocksFar S v bs
  small : ∀ b ∈ bs, SmallB b
  smk : ∀ b ∈ bs, SmallK b
theorem DrS.Slt {B p S kk : Nat} {w1 W : World} {v : Value} {bs : List BAt} (h : DrS B p w1 S kk v bs W) : S < W.heap.size := (Array.getElem?_eq_some_iff.1 h.box).1
theorem DrS.grown {B p S kk kk' : Nat} {w1 W W' : World} {v : Value} {bs : List BAt} (h : DrS B p w1 S kk v bs W) (g : W.grownBy W' (some p)) (r : Rd B W' p kk') : DrS B p w1 S kk' v bs W' :=
  ⟨r, grown_trans h.gr g, KeepP.grown g S _ (Nat.lt_of_lt_of_le h.plt h.Sge) h.box, h.Sge, h.plt, h.bin.far (h.abv p h.plt) g, h.abv, h.farS, h.small, h.smk⟩
theorem DrS.below {B p S kk : Nat} {w1 W W' : World} {v : Value} {bs : List BAt} (h : DrS B p w1 S kk v bs W) (hb : Below W.heap.size W W') : DrS B p w1 S kk v bs W' :=
  ⟨h.rd.below hb, grown_trans h.gr (grown_of_below hb _), by rw [hb.block S h.Slt]; exact h.box, h.Sge, h.plt, h.bin.below hb, h.abv, h.farS, h.small, h.smk⟩
theorem DrS.put {B p S kk : Nat} {w1 W : World} {v : Value} {bs : List BAt} (h : DrS B p w1 S kk v bs W) {v' : Value} {bs' : List BAt} (hl : BlocksIn W v' bs') (fp : ∀ q, q < w1.heap.size → BlocksFar q v' bs') (fS : BlocksFar S v' bs') (hs : ∀ x ∈ bs', SmallB x) (hk : ∀ x ∈ bs', SmallK x) : DrS B p w1 S kk v' bs' (W.setRow S #[v']) := by
  have gs := grown_setRow W S #[v']
  have hpS := Nat.lt_of_lt_of_le h.plt h.Sge
  refine ⟨Kept.rd h.rd (Kept.of_grown (S := [S]) gs (fun g hg => by cases hg; simp)) (fun i hi => by rw [List.mem_singleton.1 hi]; exact hpS), ⟨h.gr.os, h.gr.tape, h.gr.output, by rw [setRow_size]; exact h.gr.size, fun i hi hne => ?_⟩, setRow_heap _ _ _ _ _ _ h.box, h.Sge, h.plt, hl.far fS gs, fp, fS, hs, hk⟩
  have := h.Sge
  rw [setRow_other _ _ _ _ (by omega)]; exact h.gr.block i hi hne
def DrawnS (d B p k : Nat) (w : World) (e : Ending) (w' : World) : Prop := ∃ (v : Value) (bs : List BAt) (k' : Nat), e = .returned (.agg #[v]) ∧ k' ≤ k + d ∧ Rd B w' p k' ∧ w.grownBy w' (some p) ∧ BlocksOwn w.heap.size w' v bs ∧ bs.length ≤ 60 ∧ (∀ b ∈ bs, SmallB b) ∧ ∀ b ∈ bs, SmallK b
theorem DrS.out {d B p S kk k : Nat} {w w1 W W' : World} {v v5 : Value} {bs bs5 : List BAt} (h : DrS B p w1 S kk v bs W) (hs1 : w1.heap.size = w.heap.size + 1) (hw : w.grownBy w1 (some p)) (hp : p < w.heap.size) (hk : kk ≤ k + d) (hl : bs.length ≤ 60) (he : bs5.map BAt.plain = bs.map BAt.plain) (ho : BlocksOwn W.heap.size W' v5 bs5) (hb : Below W.heap.size W W') (cs : Array Value) : DrawnS d B p k w (.returned (.agg #[v5])) (W'.setRow w.heap.size cs) := by
  have gs := grown_setRow W' w.heap.size cs
  have h5 := h.below hb
  have hz := h.gr.size
  refine ⟨v5, bs5, kk, rfl, hk, Kept.rd h5.rd (Kept.of_grown (S := [w.heap.size]) gs (fun g hg => by cases hg; simp)) (fun i hi => by rw [List.mem_singleton.1 hi]; exact hp), ⟨h5.gr.os.trans hw.os, h5.gr.tape.trans hw.tape, h5.gr.output.trans hw.output, ?_, fun i hi hne => ?_⟩, (ho.setRow w.heap.size (by omega) cs).mono (by omega), ?_, smallB_same h.small he, smallK_same h.smk he⟩
  · rw [setRow_size]; have := h5.gr.size; omega
  · rw [setRow_other _ _ _ _ (by omega), h5.gr.block i (by omega) hne]; exact hw.block i hi hne
  · have := congrArg List.length he; simp at this; omega
def LoopS (B p k : Nat) (w1 : World) (S : Nat) (i : Value) (W : World) : Prop := ∃ (m kk : Nat) (v : Value) (bs : List BAt), i = .int .i64 (m : Int) ∧ m ≤ 5 ∧ bs.length + m ≤ 5 ∧ kk + 100 * m ≤ k + 501 ∧ DrS B p w1 S kk v bs W
def LoopT (B p k n : Nat) (w1 : World) (S : Nat) (i : Value) (W : World) : Prop := ∃ (m : Nat) (v : Value) (bs : List BAt), i = .int .i64 (m : Int) ∧ m ≤ bs.length ∧ bs.length ≤ n ∧ DrS B p w1 S k v bs W
theorem dec_small (i : Nat) (hi : i ≤ 60) : (Lib.decDigits i).length ≤ 7 := by rw [Lib.decDigits_length]; exact nDigits_max _ (by omega)
theorem dec_drawn (w : World) (m : Nat) (h : m ≤ 60) : ∃ ds : ByteArray, ds.size ≤ 7 ∧ ∀ q : Gr w, Calls Tryz.prog 85 #[.int .i64 (m : Int)] q.u fun e w' => e = .returned (.string ds) ∧ Below q.u.heap.size q.u w' :=
  ⟨⟨(Lib.decDigits m).toArray⟩, by show (Lib.decDigits m).toArray.size ≤ 7; rw [List.size_toArray]; exact dec_small m h, fun q => l2Dec_any m q.u (by omega)⟩
def nName (ds : ByteArray) : ByteArray := ⟨#[110]⟩ ++ ds
def berthB (nm : ByteArray) : BAt := ⟨⟨#[98, 101, 114, 116, 104]⟩, nm, .slice none 0 0, []⟩
theorem put_berth {v : Value} {bs : List BAt} {w : World} (nm : ByteArray) (hb : BlocksIn w v bs) (hl : bs.length ≤ 1048576) : Calls Tryz.prog 54 #[.agg #[v], .agg #[.string ⟨#[98, 101, 114, 116, 104]⟩, .string nm, .slice none 0 0]] w fun e w' => PutBAll v bs (berthB nm) w e w' :=
  l3PutBlock_all (x := berthB nm) hb hl ⟨⟨rfl, none, 0, rfl, ⟨Nat.le_refl _, Nat.zero_le _⟩, .inl rfl⟩, by intro x hx; cases hx⟩
theorem berth_small (ds : ByteArray) (h : ds.size ≤ 7) : SmallB (berthB (nName ds)) := by
  refine ⟨?_, Nat.zero_le _, by intro x hx; cases hx⟩
  show (nName ds).size ≤ 30
  unfold nName
  rw [ByteArray.size_append]
  show 1 + ds.size ≤ 30
  omega
theorem berth_smk (nm : ByteArray) : SmallK (berthB nm) := ⟨show (⟨#[98, 101, 114, 116, 104]⟩ : ByteArray).size ≤ 20 by decide, by intro x hx; cases hx⟩
theorem berth_far (q : Nat) (nm : ByteArray) : LinesFar q (berthB nm).v (berthB nm).ls := ⟨.inl rfl, by intro x hx; cases hx⟩
set_option maxHeartbeats 4000000 in
set_option maxRecDepth 100000 in
theorem l3Draw_any (B p k : Nat) (w : World) (h : Rd B w p k) (hk : k ≤ 600000) : Calls Tryz.prog 78 #[.pointer (some ⟨p, 0, none⟩)] w fun e w' => DrawnS 600 B p k w e w' := by
  have hp := h.lt
  have hr1 : Rd B (w.alloc (.cells #[.slice none 0 0] 25)) p k := h.below ((Below.refl _ _).alloc (Nat.le_refl _) _)
  have G1 : w.grownBy (w.alloc (.cells #[.slice none 0 0] 25)) (some p) := grown_but (World.grownBy_alloc _ _ _) _
  have z1 := alloc_here w (.cells #[.slice none 0 0] 25)
  have s1 : (w.alloc (.cells #[.slice none 0 0] 25)).heap.size = w.heap.size + 1 := by simp
  have z2 := alloc_here (w.alloc (.cells #[.slice none 0 0] 25)) (.cells #[.slice none 0 0] 25)
  have bA := (Below.refl (w.heap.size + 1) (w.alloc (.cells #[.slice none 0 0] 25))).alloc (by simp) (.cells #[.slice none 0 0] 25)
  rw [s1] at z2
  generalize hw1 : w.alloc (.cells #[.slice none 0 0] 25) = w1 at *
  have ew1 := hid_in hw1
  clear hw1
  have HS0 : DrS B p w1 (w.heap.size + 1) k (.slice none 0 0) [] (w1.alloc (.cells #[.slice none 0 0] 25)) := ⟨hr1.below (by rw [s1]; exact bA), grown_of_below (by rw [s1]; exact bA) _, z2, by omega, by omega, ⟨⟨rfl, none, 0, rfl, ⟨Nat.le_refl _, Nat.zero_le _⟩, .inl rfl⟩, by simp⟩, fun q _ => ⟨.inl rfl, by simp⟩, ⟨.inl rfl, by simp⟩, by simp, by simp⟩
  clear z2 bA hr1
  generalize hw2 : w1.alloc (.cells #[.slice none 0 0] 25) = w2 at *
  have ew2 := hid_in hw2
  clear hw2
  have HPK := pick_any B p k 6 w2 HS0.rd (by omega) (by omega) (by omega)
  go_enter Tryz.func78, Tryz.ntmps78
  go_wp2_with (go_at_call 44; rw [ew1.out, ew2.out]; refine HPK.mono ?_)
  rintro e w3 ⟨n0, hn0, rfl, hr3, hg3⟩
  have HS3 := hid_in (HS0.grown hg3 hr3)
  clear HPK HS0 hr3 hg3
  go_wp2
  go_loopw [4] (fun i wr => LoopS B p k w1 (w.heap.size + 1) i wr) (fun i _ => (intOf i).toNat)
  case atStart => exact ⟨n0, k + 1, .slice none 0 0, [], rfl, by omega, by simp; omega, by omega, HS3.out⟩
  case round =>
    obtain ⟨m, kk, v, bs, rfl, hm5, hlm, hkk, HS⟩ := hrel
    obtain ⟨sa, sc, rfl⟩ := HS.bin.1.form
    have c0 := cell_of_block HS.box 0
    simp only [List.getElem?_toArray, List.getElem?_cons_zero] at c0
    clear HS3
    cases m with
    | zero =>
      have HP1 := pick_any B p kk 24 wr HS.rd (by omega) (by omega) (by omega)
      have HSZ := hid_in HS
      clear HS
      go_wp2_with (go_at_call 44; refine HP1.mono ?_)
      rintro e w4 ⟨y, hy, rfl, hr4, hg4⟩
      have HS4 := HSZ.out.grown hg4 hr4
      have c4 := cell_of_block HS4.box 0
      simp only [List.getElem?_toArray, List.getElem?_cons_zero] at c4
      clear HP1 HSZ hr4 hg4 c0
      by_cases hy0 : y = 0
      · subst hy0
        have HP2 := pick_any B p (kk + 1) 2 w4 HS4.rd (by omega) (by omega) (by omega)
        have HSZ := hid_in HS4
        clear HS4
        go_wp2_with (go_at_call 44; refine HP2.mono ?_)
        rintro e w5 ⟨x, hx, rfl, hr5, hg5⟩
        have HS5 := hid_in (HSZ.out.grown hg5 hr5)
        clear HP2 HSZ hr5 hg5 c4
        have hx60 : (60 : Int) - (x : Int) = ((60 - x : Nat) : Int) := by omega
        go_wp2
        generalize hnn : 60 - x = n at *
        have hn60 : n ≤ 60 := by omega
        have hn59 : 59 ≤ n := by omega
        clear hnn hx60 hx
        go_loopw [7] (fun i wr => LoopT B p (kk + 1 + 1) n w1 (w.heap.size + 1) i wr) (fun i W => 61 - (intOf i).toNat)
        case atStart => exact ⟨0, .slice sa bs.length sc, bs, rfl, by omega, by omega, HS5.out⟩
        case round =>
          obtain ⟨m2, v, bs2, rfl, hm2, hl2, HS⟩ := hrel
          obtain ⟨ta, tc, rfl⟩ := HS.bin.1.form
          have c6 := cell_of_block HS.box 0
          simp only [List.getElem?_toArray, List.getElem?_cons_zero] at c6
          clear HS5
          by_cases hlt : bs2.length < n
          · have hlt' : ((bs2.length : Int) < (n : Int)) := by omega
            obtain ⟨ds, hds, HD⟩ : ∃ ds : ByteArray, ds.size ≤ 7 ∧ ∀ q : Gr wr, Calls Tryz.prog 85 #[.int .i64 (m2 : Int)] q.u fun e w' => e = .returned (.string ds) ∧ Below q.u.heap.size q.u w' := dec_drawn wr m2 (by omega)
            have HPB : ∀ q : Gr wr, Calls Tryz.prog 54 #[.agg #[.slice ta bs2.length tc], .agg #[.string ⟨#[98, 101, 114, 116, 104]⟩, .string (nName ds), .slice none 0 0]] q.u fun e w' => PutBAll (.slice ta bs2.length tc) bs2 (berthB (nName ds)) q.u e w' := fun q => put_berth (nName ds) (HS.bin.below q.h) (Nat.le_trans (Nat.le_of_lt hlt) (Nat.le_trans hn60 (by decide)))
            generalize hNM : berthB (nName ds) = bb at HPB
            have eNM := hid_in hNM
            clear hNM
            unfold nName at HPB
            have hcat : ¬ 9223372036854775807 < 1 + ds.size := by omega
            have v0 := fun q : Gr wr => gr_cell c6 q
            have HSX := hid_in (berth_small ds hds)
            have HSH := hid_in HS
            clear HS
            go_upto_region 13 with fail
            refine wp_region_upM 6 7 (by kernel_rfl) rfl ?_
            refine wpUp_mask [true, true, true, true, true, false, false] 2 rfl (by kernel_rfl) ?_
            simp only [maskL_t, maskL_f, maskL_n]
            iterate 2 (refine wpQuietU_step (fun K hK => ?_); go_simp; refine hK _ ?_; clear hK K)
            refine wpQuietU_step (fun K hK => ?_)
            go_simp
            apply Exists.intro
            refine ⟨fun _ => ?_, hK _ ?_⟩
            go_at_call 85
            exact HD _
            clear hK K
            iterate 2 (refine wpQuietU_step (fun K hK => ?_); go_simp; refine hK _ ?_; clear hK K)
            refine wpQuietU_nil ?_
            refine wpUp_branch (f := 1) (rs := [5]) (by kernel_rfl) (by simp) ?_
            rintro ⟨wp, bp⟩
            refine AllUp.cons rfl (by decide) (fun K hK => ?_) AllUp.nil
            go_simp
            go_wp2_with (go_at_call 54; refine (HPB ⟨wp, bp⟩).mono ?_; rintro e w7 ⟨a7, n7, c7, bs7, rfl, h7, b7⟩)
            refine hK.out _ _ b7 ?_
            clear hK K
            refine wpUp_last (by kernel_rfl) rfl (by kernel_rfl) ?_
            rintro ⟨wz, bz⟩ K hK
            have Bp := bp.trans ((b7.trans (bz.mono b7.size)).mono bp.size)
            have HSz := HSH.out.below Bp
            have hbox := HSz.box
            have hwpz := bp.size
            have hSr := HSH.out.Slt
            have hw1r := HSH.out.gr.size
            have HPT := HSz.put (v' := .slice a7 n7 c7) (bs' := bs7) (h7.2.2.2.1.below bz) (fun q hq => h7.2.2.2.2 q (by show q < wp.heap.size; omega) (HSH.out.abv q hq) (by rw [← eNM.out]; exact berth_far q _)) (h7.2.2.2.2 _ (by show _ < wp.heap.size; omega) HSH.out.farS (by rw [← eNM.out]; exact berth_far _ _)) (fun y hy => by
              rcases h7.2.2.1 y hy with rfl | hy
              · rw [← eNM.out]; exact HSX.out
              · exact HSH.out.small y hy) (fun y hy => by
              rcases h7.2.2.1 y hy with rfl | hy
              · rw [← eNM.out]; exact berth_smk _
              · exact HSH.out.smk y hy)
            have hlen7 := h7.2.1
            rw [if_pos (by rfl)]
            refine wp_store_row 25 _ _ rfl (w.heap.size + 1) #[.slice a7 n7 c7] rfl rfl 25 _ hbox (by first | kernel_rfl | exact sheet_size) rfl (by first | rfl | kernel_rfl) ?_
            refine hK.out _ _ (NoPanic.normal ?_)
            clear hK K h7 hbox HSz
            have HPH := hid_in HPT
            clear HPT HPB HD
            go_wp2
            go_roundw
            case rel => exact ⟨m2 + 1, .slice a7 n7 c7, bs7, by go_num, by omega, by omega, HPH.out⟩
            case measure => simp [intOf]; omega
          · have hlt' : ¬ ((bs2.length : Int) < (n : Int)) := by omega
            have HC := l3Copy_any HS.bin (small_blocks (by omega) HS.small)
            have HSH := hid_in HS
            have hWz := HS.gr.size
            have zW : wr.heap[w.heap.size]? = some (.cells #[.slice none 0 0] 25 (0, 0)) := by rw [HS.gr.block w.heap.size (by omega) (by intro e; cases e; omega)]; exact z1
            clear HS
            go_wp2_with (go_at_call 55; refine HC.mono ?_)
            first | rintro e w9 v9 rfl bs9 hp9 o9 b9 | rintro e w9 v9 bs9 rfl hp9 o9 b9 | rintro e w9 ⟨v9, bs9, rfl, hp9, o9, b9⟩
            have z9 := (b9.block w.heap.size (by omega)).trans zW
            obtain ⟨a9, c9, rfl, _⟩ := own_form o9.row
            have HO := hid_in (HSH.out.out (d := 600) (k := k) s1 G1 hp (by omega) (by omega) hp9 o9 b9 #[.slice a9 bs9.length c9])
            clear HC HSH o9 hp9 b9 zW
            generalize bs9.length = n9 at *
            go_wp2_with (with_reducible show wpList _ _ _ (Oper.mk _ (Op.store _ (Operand.tmp 2) _) _ _ _ _ :: _) _ _; refine wpList_store_row rfl 25 _ _ rfl w.heap.size #[.slice a9 n9 c9] ?_ ?_ 25 _ z9 ?_ ?_ ?_ ?_)
            all_goals (first | rfl | kernel_rfl | exact sheet_size | skip)
            have z5 : (w9.setRow w.heap.size #[.slice a9 n9 c9]).heap[w.heap.size]? = some (.cells #[.slice a9 n9 c9] 25 (0, 0)) := setRow_heap _ _ _ _ _ _ z9
            have y0 := cell_of_block z5 0
            simp only [List.getElem?_toArray, List.getElem?_cons_zero] at y0
            generalize w9.setRow w.heap.size #[.slice a9 n9 c9] = W at HO y0 z5 ⊢
            exact bodyPost_ret (v := .agg #[.slice a9 n9 c9]) (by simp [results, Tryz.results78, go_sem, y0]) rfl HO.out
      · have hy1 : ((y : Int) == 0) = false := by rw [beq_eq_false_iff_ne]; omega
        have HS := HS4
        clear HS4
        have HC := l3Copy_any HS.bin (small_blocks (by omega) HS.small)
        have HSH := hid_in HS
        have hWz := HS.gr.size
        have zW : w4.heap[w.heap.size]? = some (.cells #[.slice none 0 0] 25 (0, 0)) := by rw [HS.gr.block w.heap.size (by omega) (by intro e; cases e; omega)]; exact z1
        clear HS
        go_wp2_with (go_at_call 55; refine HC.mono ?_)
        first | rintro e w9 v9 rfl bs9 hp9 o9 b9 | rintro e w9 v9 bs9 rfl hp9 o9 b9 | rintro e w9 ⟨v9, bs9, rfl, hp9, o9, b9⟩
        have z9 := (b9.block w.heap.size (by omega)).trans zW
        obtain ⟨a9, c9, rfl, _⟩ := own_form o9.row
        have HO := hid_in (HSH.out.out (d := 600) (k := k) s1 G1 hp (by omega) (by omega) hp9 o9 b9 #[.slice a9 bs9.length c9])
        clear HC HSH o9 hp9 b9 zW
        generalize bs9.length = n9 at *
        go_wp2_with (with_reducible show wpList _ _ _ (Oper.mk _ (Op.store _ (Operand.tmp 2) _) _ _ _ _ :: _) _ _; refine wpList_store_row rfl 25 _ _ rfl w.heap.size #[.slice a9 n9 c9] ?_ ?_ 25 _ z9 ?_ ?_ ?_ ?_)
        all_goals (first | rfl | kernel_rfl | exact sheet_size | skip)
        have z5 : (w9.setRow w.heap.size #[.slice a9 n9 c9]).heap[w.heap.size]? = some (.cells #[.slice a9 n9 c9] 25 (0, 0)) := setRow_heap _ _ _ _ _ _ z9
        have y0 := cell_of_block z5 0
        simp only [List.getElem?_toArray, List.getElem?_cons_zero] at y0
        generalize w9.setRow w.heap.size #[.slice a9 n9 c9] = W at HO y0 z5 ⊢
        exact bodyPost_ret (v := .agg #[.slice a9 n9 c9]) (by simp [results, Tryz.results78, go_sem, y0]) rfl HO.out
    | succ m =>
      have hm1 : ((m + 1 : Nat) : Int) > 0 := by omega
      have HD := l3DrawBlock_any B p kk wr HS.rd (by omega)
      have HSH := hid_in HS
      have hSr := HS.Slt
      have hw1r := HS.gr.size
      clear HS
      go_wp2_with (go_at_call 106; refine HD.mono ?_)
      rintro e w4 ⟨b, k4, rfl, hk4, hr4, hg4, ⟨hbl, hbf⟩, hbn, hbl7, hbs, hbk⟩
      obtain ⟨ba, bc, eb⟩ := hbl.1.form
      obtain ⟨bk, bn, bv, bl⟩ := b
      simp only at hbl hbf hbn hbl7 hbs eb
      subst eb
      have HSK := hid_in (show ∀ q, SmallK ⟨bk, bn, .slice ba q bc, bl⟩ from fun _ => hbk)
      clear hbk
      have HS4 := HSH.out.grown hg4 hr4
      have hg4s := hg4.size
      have bx := (Below.refl w4.heap.size w4).alloc (Nat.le_refl _) (.cells #[.string bk, .string bn, .slice ba bl.length bc] 46)
      have HS5 := HS4.below bx
      have xb := alloc_here w4 (.cells #[.string bk, .string bn, .slice ba bl.length bc] 46)
      have l0 := cell_of_block xb 0
      have l1 := cell_of_block xb 1
      have l2 := cell_of_block xb 2
      have c5 := cell_of_block HS5.box 0
      simp only [List.getElem?_toArray, List.getElem?_cons_zero, List.getElem?_cons_succ] at l0 l1 l2 c5
      have HBL := hid_in (hbl.below bx)
      have HBF := hid_in hbf
      have HSB := hid_in (show SmallB ⟨bk, bn, .slice ba bl.length bc, bl⟩ from ⟨by simp only; omega, hbl7, hbs⟩)
      have HF := l3Find_any bk bn HS5.bin (by omega)
      have HS5H := hid_in HS5
      have hz4 : (w4.alloc (.cells #[.string bk, .string bn, .slice ba bl.length bc] 46)).heap.size = w4.heap.size + 1 := by simp
      clear HD HSH HS4 HS5 hbl hbf hbs hr4 hg4 bx xb c0
      generalize hnl : bl.length = nl at *
      clear hnl
      generalize hw5 : w4.alloc (.cells #[.string bk, .string bn, .slice ba nl bc] 46) = w5 at *
      go_wp2_with (go_at_call 52; (try rw [hw5]); refine HF.mono ?_)
      first | rintro e w6 hf b6 | rintro e w6 ⟨hf, b6⟩
      have HS6 := HS5H.out.below b6
      have e0 := (b6.cell (World.block_lt_of_cell? _ _ l0)).trans l0
      have e1 := (b6.cell (World.block_lt_of_cell? _ _ l1)).trans l1
      have e2 := (b6.cell (World.block_lt_of_cell? _ _ l2)).trans l2
      have e3 := (b6.cell (World.block_lt_of_cell? _ _ c5)).trans c5
      have hz6 := b6.size
      have HBL6 := hid_in (HBL.out.below b6)
      have HS6H := hid_in HS6
      clear HF HS5H HBL l0 l1 l2 c5 HS6 hw5
      rcases hf with ⟨_, rfl⟩ | ⟨D, x, T, _, _, rfl⟩
      · have HPB := l3PutBlock_all (x := ⟨bk, bn, .slice ba nl bc, bl⟩) HS6H.out.bin (by omega) HBL6.out
        go_wp2_with (go_at_call 54; refine HPB.mono ?_)
        rintro e w7 ⟨a7, n7, c7, bs7, rfl, h7, b7⟩
        have HS7 := HS6H.out.below b7
        have hbox := HS7.box
        have HPT := hid_in (HS7.put (v' := .slice a7 n7 c7) (bs' := bs7) h7.2.2.2.1 (fun q hq => h7.2.2.2.2 q (by omega) (HS6H.out.abv q hq) (HBF.out q (by omega))) (h7.2.2.2.2 _ (by omega) HS6H.out.farS (HBF.out _ hSr)) (fun y hy => by
          rcases h7.2.2.1 y hy with rfl | hy
          · exact HSB.out
          · exact HS6H.out.small y hy) (fun y hy => by
          rcases h7.2.2.1 y hy with rfl | hy
          · exact HSK.out _
          · exact HS6H.out.smk y hy))
        have hlen7 := h7.2.1
        clear HPB h7 HS7 HS6H HBL6 e0 e1 e2 e3
        go_wp2_with (with_reducible show wpList _ _ _ (Oper.mk _ (Op.store _ (Operand.tmp 3) _) _ _ _ _ :: _) _ _; refine wpList_store_row rfl 25 _ _ rfl (w.heap.size + 1) #[.slice a7 n7 c7] ?_ ?_ 25 _ hbox ?_ ?_ ?_ ?_)
        all_goals (first | rfl | kernel_rfl | exact sheet_size | skip)
        go_roundw
        case rel => exact ⟨m, k4, .slice a7 n7 c7, bs7, by go_num, by omega, by omega, by omega, HPT.out⟩
        case measure => simp [intOf]
      · have hnn : ¬ ((D.length : Int) < 0) := by omega
        clear e0 e1 e2 e3
        go_wp2
        go_roundw
        case rel => exact ⟨m, k4, _, bs, by go_num, by omega, by omega, by omega, HS6H.out⟩
        case measure => simp [intOf]
end Go.Proofs.YtpdahhnjhggocaaGreatDoor
namespace Go.Proofs.YtpdahhnjhggocaaGreatDoor
open Go.RowKit
def SmallX (name : ByteArray) (ls : List LAt) : Prop := name.size ≤ 1048576 ∧ LinesSmall ls
theorem SmallB.x {b : BAt} (h : SmallB b) : SmallX b.name b.ls := ⟨Nat.le_trans h.1 (by decide), h.lines⟩
def LFree (c : Nat) (G : List Nat) (W : World) (v : Value) (ls : List LAt) : Prop := LinesIn W v ls ∧ (∀ q ∈ G, LinesFar q v ls) ∧ ∀ q, q < c → LinesFar q v ls
theorem LFree.grown {c q : Nat} {G : List Nat} {W W' : World} {v : Value} {ls : List LAt} (h : LFree c G W v ls) (hg : W.grownBy W' (some q)) (hq : q < c ∨ q ∈ G) : LFree c G W' v ls := ⟨h.1.far (by rcases hq with hq | hq; exact h.2.2 q hq; exact h.2.1 q hq) hg, h.2⟩
theorem LFree.below {c : Nat} {G : List Nat} {W W' : World} {v : Value} {ls : List LAt} (h : LFree c G W v ls) (hb : Below W.heap.size W W') : LFree c G W' v ls := ⟨h.1.below hb, h.2⟩
structure SpJ (B p c X Y : Nat) (w1 : World) (D T : List BAt) (y : BAt) (g n cap kk : Nat) (bk bn : ByteArray) (bv : Value) (ls : List LAt) (W : World) : Prop where
  rd : Rd B W p kk
  gr : w1.grownBy W (some p)
  plt : p < c
  cw : c = w1.heap.size
  xb : W.heap[X]? = some (.cells #[.slice (some ⟨g, 0, none⟩) n cap] 25 (0, 0))
  yb : W.heap[Y]? = some (.cells #[.string bk, .string bn, bv] 46 (0, 0))
  cX : c ≤ X
  cY : c ≤ Y
  XY : X ≠ Y
  gX : g ≠ X
  gY : g ≠ Y
  row : W.ownsRow c 46 3 (.slice (some ⟨g, 0, none⟩) n cap) n ((D ++ y :: T).flatMap BAt.cells)
  len : (D ++ y :: T).length = n
  few : n ≤ 62
  oth : ∀ x ∈ D ++ T, LFree c [g, X, Y] W x.v x.ls ∧ SmallX x.name x.ls
  mine : LFree c [g, X, Y] W bv ls ∧ SmallX bn ls
theorem SpJ.below {B p c X Y : Nat} {w1 : World} {D T : List BAt} {y : BAt} {g n cap kk : Nat} {bk bn : ByteArray} {bv : Value} {ls : List LAt} {W W' : World} (h : SpJ B p c X Y w1 D T y g n cap kk bk bn bv ls W) (hb : Below W.heap.size W W') : SpJ B p c X Y w1 D T y g n cap kk bk bn bv ls W' :=
  ⟨h.rd.below hb, grown_trans h.gr (grown_of_below hb _), h.plt, h.cw, (hb.block X (Array.getElem?_eq_some_iff.1 h.xb).1).trans h.xb, (hb.block Y (Array.getElem?_eq_some_iff.1 h.yb).1).trans h.yb, h.cX, h.cY, h.XY, h.gX, h.gY, own_below h.row hb, h.len, h.few, fun x hx => ⟨(h.oth x hx).1.below hb, (h.oth x hx).2⟩, h.mine.1.below hb, h.mine.2⟩
theorem SpJ.grown {B p c X Y : Nat} {w1 : World} {D T : List BAt} {y : BAt} {g n cap kk kk' : Nat} {bk bn : ByteArray} {bv : Value} {ls : List LAt} {W W' : World} (h : SpJ B p c X Y w1 D T y g n cap kk bk bn bv ls W) (hg : W.grownBy W' (some p)) (hr : Rd B W' p kk') : SpJ B p c X Y w1 D T y g n cap kk' bk bn bv ls W' := by
  have hpX : p < X := Nat.lt_of_lt_of_le h.plt h.cX
  have hpY : p < Y := Nat.lt_of_lt_of_le h.plt h.cY
  exact ⟨hr, grown_trans h.gr hg, h.plt, h.cw, KeepP.grown hg X _ hpX h.xb, KeepP.grown hg Y _ hpY h.yb, h.cX, h.cY, h.XY, h.gX, h.gY, own_other h.row hg h.plt, h.len, h.few, fun x hx => ⟨(h.oth x hx).1.grown hg (.inl h.plt), (h.oth x hx).2⟩, h.mine.1.grown hg (.inl h.plt), h.mine.2⟩
theorem SpJ.head {B p c X Y : Nat} {w1 : World} {D T : List BAt} {y : BAt} {g n cap kk : Nat} {bk bn bk' bn' : ByteArray} {bv : Value} {ls : List LAt} {W W' : World} (h : SpJ B p c X Y w1 D T y g n cap kk bk bn bv ls W) (hy : W'.heap[Y]? = some (.cells #[.string bk', .string bn', bv] 46 (0, 0))) (hn : bn'.size ≤ 1048576) (hg : W.grownBy W' (some Y)) : SpJ B p c X Y w1 D T y g n cap kk bk' bn' bv ls W' := by
  have hX : X < W.heap.size := (Array.getElem?_eq_some_iff.1 h.xb).1
  have hgt := (h.row.lt g rfl).1
  refine ⟨Kept.rd h.rd (Kept.of_grown (S := [Y]) hg (fun q hq => by cases hq; simp)) (fun i hi => by rw [List.mem_singleton.1 hi]; have := h.cY; have := h.plt; omega), ⟨hg.os.trans h.gr.os, hg.tape.trans h.gr.tape, hg.output.trans h.gr.output, Nat.le_trans h.gr.size hg.size, fun i hi hne => ?_⟩, h.plt, h.cw, ?_, hy, h.cX, h.cY, h.XY, h.gX, h.gY, World.ownsRow.kept h.row hg (.inr (fun e => by cases e; exact h.gY rfl)), h.len, h.few, fun x hx => ⟨(h.oth x hx).1.grown hg (.inr (by simp)), (h.oth x hx).2⟩, ⟨h.mine.1.grown hg (.inr (by simp)), hn, h.mine.2.2⟩⟩
  · have hc := h.cY
    have hw := h.cw
    have := h.gr.size
    rw [hg.block i (by omega) (by intro e; cases e; omega)]; exact h.gr.block i hi hne
  · rw [hg.block X hX (by intro e; cases e; exact h.XY rfl)]; exact h.xb
theorem SpJ.push {B p c X Y : Nat} {w1 : World} {D T : List BAt} {y z : BAt} {g g' n cap cap' kk : Nat} {bk bn : ByteArray} {bv : Value} {ls : List LAt} {W W' : World} (h : SpJ B p c X Y w1 D T y g n cap kk bk bn bv ls W) (hg : W.grownBy W' (some g)) (row' : W'.ownsRow c 46 3 (.slice (some ⟨g', 0, none⟩) (n + 1) cap') (n + 1) ((D ++ y :: (T ++ [z])).flatMap BAt.cells)) (hz : LFree c [g, X, Y] W z.v z.ls ∧ SmallX z.name z.ls) (hg' : g' = g ∨ W.heap.size ≤ g') (hX : g' ≠ X) (hY : g' ≠ Y) (few : n + 1 ≤ 62) :
    SpJ B p c X Y w1 D (T ++ [z]) y g' (n + 1) cap' kk bk bn bv ls (W'.setCell ⟨X, 0, none⟩ (.slice (some ⟨g', 0, none⟩) (n + 1) cap')) := by
  have hXl : X < W.heap.size := (Array.getElem?_eq_some_iff.1 h.xb).1
  have hYl : Y < W.heap.size := (Array.getElem?_eq_some_iff.1 h.yb).1
  have hgc := (h.row.lt g rfl).1
  have hcX := h.cX
  have hcw := h.cw
  have hws := h.gr.size
  have hgz := hg.size
  have hplt := h.plt
  have gS : W'.grownBy (W'.setCell ⟨X, 0, none⟩ (.slice (some ⟨g', 0, none⟩) (n + 1) cap')) (some X) := ⟨rfl, rfl, rfl, by simp, fun i _ hi => heap_setCell_other W' ⟨X, 0, none⟩ i _ (fun e => hi (by simp [e]))⟩
  have xb' : W'.heap[X]? = some (.cells #[.slice (some ⟨g, 0, none⟩) n cap] 25 (0, 0)) := (hg.block X hXl (by intro e; cases e; exact h.gX rfl)).trans h.xb
  have yb' : W'.heap[Y]? = some (.cells #[.string bk, .string bn, bv] 46 (0, 0)) := (hg.block Y hYl (by intro e; cases e; exact h.gY rfl)).trans h.yb
  have hfr : ∀ {v : Value} {ls : List LAt}, LFree c [g, X, Y] W v ls → LFree c [g', X, Y] (W'.setCell ⟨X, 0, none⟩ (.slice (some ⟨g', 0, none⟩) (n + 1) cap')) v ls := fun {v ls} hf => by
    refine ⟨((hf.grown hg (.inr (by simp))).grown gS (.inr (by simp))).1, fun q hq => ?_, hf.2.2⟩
    simp only [List.mem_cons, List.not_mem_nil, or_false] at hq
    rcases hq with rfl | rfl | rfl
    · rcases hg' with e | e
      · rw [e]; exact hf.2.1 g (by simp)
      · exact hf.1.fresh e
    · exact hf.2.1 _ (by simp)
    · exact hf.2.1 _ (by simp)
  refine ⟨?_, ⟨gS.os.trans (hg.os.trans h.gr.os), gS.tape.trans (hg.tape.trans h.gr.tape), gS.output.trans (hg.output.trans h.gr.output), by have := gS.size; omega, fun i hi hne => ?_⟩, h.plt, h.cw, ?_, ?_, h.cX, h.cY, h.XY, hX, hY, ?_, ?_, few, fun x hx => ?_, hfr h.mine.1, h.mine.2⟩
  · have k1 := Kept.rd h.rd (Kept.of_grown (S := [g]) hg (fun q hq => by cases hq; simp)) (fun i hi => by rw [List.mem_singleton.1 hi]; omega)
    exact Kept.rd k1 (Kept.of_grown (S := [X]) gS (fun q hq => by cases hq; simp)) (fun i hi => by rw [List.mem_singleton.1 hi]; omega)
  · rw [gS.block i (by omega) (by intro e; cases e; omega), hg.block i (by omega) (by intro e; cases e; omega)]
    exact h.gr.block i hi hne
  · rw [heap_setCell_same W' X 0 _ _ _ xb']; rfl
  · rw [gS.block Y (by omega) (by intro e; cases e; exact h.XY rfl)]; exact yb'
  · exact World.ownsRow.kept row' gS (.inr (fun e => by cases e; exact hX rfl))
  · have := h.len
    simp at this ⊢
    omega
  · rw [← List.append_assoc] at hx
    rcases List.mem_append.1 hx with hx | hx
    · exact ⟨hfr (h.oth x hx).1, (h.oth x hx).2⟩
    · rw [List.mem_singleton.1 hx]; exact ⟨hfr hz.1, hz.2⟩
theorem SpJ.lines {B p c X Y l : Nat} {w1 : World} {D T : List BAt} {y : BAt} {g n cap kk : Nat} {bk bn : ByteArray} {ls' : List LAt} {W W' : World} (h : SpJ B p c X Y w1 D T y g n cap kk bk bn y.v y.ls W) (own' : BlocksOwn c W' (.slice (some ⟨g, 0, none⟩) n cap) (D ++ { y with ls := ls' } :: T)) (hg : W.grownBy W' (some l)) (hl : c ≤ l) (lX : l ≠ X) (lY : l ≠ Y) (hf : (∀ q ∈ [g, X, Y], LinesFar q y.v ls') ∧ ∀ q, q < c → LinesFar q y.v ls') (hs : SmallX bn ls') : SpJ B p c X Y w1 D T y g n cap kk bk bn y.v ls' W' := by
  have hXl : X < W.heap.size := (Array.getElem?_eq_some_iff.1 h.xb).1
  have hYl : Y < W.heap.size := (Array.getElem?_eq_some_iff.1 h.yb).1
  have hcw := h.cw
  have hws := h.gr.size
  have hplt := h.plt
  have hrow := own'.row
  have e1 : (D ++ { y with ls := ls' } :: T).length = n := by rw [← h.len]; simp
  have e2 : (D ++ { y with ls := ls' } :: T).flatMap BAt.cells = (D ++ y :: T).flatMap BAt.cells := by simp [BAt.cells]
  rw [e1, e2] at hrow
  refine ⟨Kept.rd h.rd (Kept.of_grown (S := [l]) hg (fun q hq => by cases hq; simp)) (fun i hi => by rw [List.mem_singleton.1 hi]; omega), ⟨hg.os.trans h.gr.os, hg.tape.trans h.gr.tape, hg.output.trans h.gr.output, Nat.le_trans h.gr.size hg.size, fun i hi hne => ?_⟩, h.plt, h.cw, (hg.block X hXl (by intro e; cases e; exact lX rfl)).trans h.xb, (hg.block Y hYl (by intro e; cases e; exact lY rfl)).trans h.yb, h.cX, h.cY, h.XY, h.gX, h.gY, hrow, h.len, h.few, fun x hx => ⟨⟨(own'.lines x ?_).lin, (h.oth x hx).1.2⟩, (h.oth x hx).2⟩, ⟨(own'.lines { y with ls := ls' } (by simp)).lin, hf⟩, hs⟩
  · rw [hg.block i (by omega) (by intro e; cases e; omega)]; exact h.gr.block i hi hne
  · simp only [List.mem_append, List.mem_cons] at hx ⊢
    rcases hx with hx | hx
    · exact .inl hx
    · exact .inr (.inr hx)
def Spoilt (d B p k : Nat) (w : World) (e : Ending) (w' : World) : Prop := ∃ (a : Option Addr) (n c : Nat) (bs : List BAt) (k' : Nat), e = .returned (.agg #[.slice a n c]) ∧ k' ≤ k + d ∧ Rd B w' p k' ∧ w.grownBy w' (some p) ∧ BlocksIn w' (.slice a n c) bs ∧ (BlocksSmall bs ∧ bs.length ≤ 62) ∧ ∀ q, q < w.heap.size → BlocksFar q (.slice a n c) bs
theorem SpJ.out {d B p c X Y : Nat} {w w1 : World} {D T : List BAt} {y : BAt} {g n cap kk k : Nat} {bk bn : ByteArray} {bv : Value} {ls : List LAt} {W : World} (h : SpJ B p c X Y w1 D T y g n cap kk bk bn bv ls W) (hc : c = w.heap.size + 2) (hw : w.grownBy w1 (some p)) (hk : kk ≤ k + d) (hp : p < w.heap.size) (cs : Array Value) : Spoilt d B p k w (.returned (.agg #[.slice (some ⟨g, 0, none⟩) n cap])) ((W.setCells g (D.length * 3) [.string bk, .string bn, bv]).setRow (w.heap.size + 1) cs) ∧ (W.setCells g (D.length * 3) [.string bk, .string bn, bv]).heap[X]? = W.heap[X]? ∧ W.there g (D.length * 3) 3 ∧ (W.setCells g (D.length * 3) [.string bk, .string bn, bv]).heap[w.heap.size + 1]? = W.heap[w.heap.size + 1]? := by
  have hgt := h.row.lt g rfl
  have hX : X < W.heap.size := (Array.getElem?_eq_some_iff.1 h.xb).1
  have hwz := h.gr.size
  have hcw := h.cw
  obtain ⟨ys, y1, y2, y3⟩ := own_setCells [.string bk, .string bn, bv] (D.length * 3) W _ h.row
  have hy := y3 (D.flatMap BAt.cells) y.cells (T.flatMap BAt.cells) (by simp) (rowF_len _ 3 BAt.len D) (by rw [BAt.len]; rfl)
  rw [hy] at y1
  have gs := grown_setRow (W.setCells g (D.length * 3) [.string bk, .string bn, bv]) (w.heap.size + 1) cs
  have hlen : (D ++ (⟨bk, bn, bv, ls⟩ : BAt) :: T).length = n := by rw [← h.len]; simp
  have hall : ∀ x ∈ D ++ (⟨bk, bn, bv, ls⟩ : BAt) :: T, LFree c [g, X, Y] W x.v x.ls ∧ SmallX x.name x.ls := by
    intro x hx
    simp only [List.mem_append, List.mem_cons] at hx
    rcases hx with hx | rfl | hx
    · exact h.oth x (by simp [hx])
    · exact h.mine
    · exact h.oth x (by simp [hx])
  have hfin : BlocksIn ((W.setCells g (D.length * 3) [.string bk, .string bn, bv]).setRow (w.heap.size + 1) cs) (.slice (some ⟨g, 0, none⟩) n cap) (D ++ (⟨bk, bn, bv, ls⟩ : BAt) :: T) := by
    refine ⟨?_, fun x hx => ?_⟩
    · rw [hlen]
      have := own_has (own_setRow y1 (w.heap.size + 1) (by omega) cs)
      simpa [BAt.cells] using this
    · exact (((hall x hx).1.grown y2 (.inr (by simp))).grown gs (.inl (by omega))).1
  refine ⟨⟨_, n, cap, D ++ (⟨bk, bn, bv, ls⟩ : BAt) :: T, kk, rfl, hk, ?_, ⟨?_, ?_, ?_, ?_, fun i hi hne => ?_⟩, hfin, ⟨⟨by rw [hlen]; exact Nat.le_trans h.few (by decide), fun x hx => (hall x hx).2⟩, by rw [hlen]; exact h.few⟩, fun q hq => ⟨?_, fun x hx => (hall x hx).1.2.2 q (by omega)⟩⟩, ?_, row_there h.row _ _ ?_, ?_⟩
  · have k1 := Kept.rd h.rd (Kept.of_grown (S := [g]) y2 (fun q hq => by cases hq; simp)) (fun i hi => by rw [List.mem_singleton.1 hi]; omega)
    exact Kept.rd k1 (Kept.of_grown (S := [w.heap.size + 1]) gs (fun q hq => by cases hq; simp)) (fun i hi => by rw [List.mem_singleton.1 hi]; omega)
  · exact (gs.os.trans y2.os).trans (h.gr.os.trans hw.os)
  · exact (gs.tape.trans y2.tape).trans (h.gr.tape.trans hw.tape)
  · exact (gs.output.trans y2.output).trans (h.gr.output.trans hw.output)
  · have := gs.size; have := y2.size; omega
  · rw [gs.block i (by have := y2.size; omega) (by intro e; cases e; omega), y2.block i (by omega) (by intro e; cases e; omega), h.gr.block i (by omega) hne]
    exact hw.block i hi hne
  · rw [hlen]; exact FarV.above h.row (by omega)
  · exact y2.block X hX (by intro e; cases e; exact h.gX rfl)
  · have : D.length + 1 ≤ n := by rw [← h.len]; simp
    omega
  · exact y2.block (w.heap.size + 1) (by omega) (by intro e; cases e; omega)
end Go.Proofs.YtpdahhnjhggocaaGreatDoor
namespace Go.Proofs.YtpdahhnjhggocaaGreatDoor
open Go.RowKit
structure NrS (B p : Nat) (w1 : World) (S : Nat) (kk : Nat) (v : Value) (bs : List BAt) (W : World) : Prop where
  rd : Rd B W p kk
  gr : w1.grownBy W (some p)
  box : W.heap[S]? = some (.cells #[v] 25 (0, 0))
  Sge : w1.heap.size ≤ S
  plt : p < w1.heap.size
  bin : BlocksIn W v bs
  abv : ∀ q, q < w1.heap.size → BlocksFar q v bs
  farS : BlocksFar S v bs
  small : ∀ b ∈ bs, SmallX b.name b.ls
theorem NrS.Slt {B p S kk : Nat} {w1 W : World} {v : Value} {bs : List BAt} (h : NrS B p w1 S kk v bs W) : S < W.heap.size := (Array.getElem?_eq_some_iff.1 h.box).1
theorem NrS.grown {B p S kk kk' : Nat} {w1 W W' : World} {v : Value} {bs : List BAt} (h : NrS B p w1 S kk v bs W) (g : W.grownBy W' (some p)) (r : Rd B W' p kk') : NrS B p w1 S kk' v bs W' :=
  ⟨r, grown_trans h.gr g, KeepP.grown g S _ (Nat.lt_of_lt_of_le h.plt h.Sge) h.box, h.Sge, h.plt, h.bin.far (h.abv p h.plt) g, h.abv, h.farS, h.small⟩
theorem NrS.below {B p S kk : Nat} {w1 W W' : World} {v : Value} {bs : List BAt} (h : NrS B p w1 S kk v bs W) (hb : Below W.heap.size W W') : NrS B p w1 S kk v bs W' :=
  ⟨h.rd.below hb, grown_trans h.gr (grown_of_below hb _), by rw [hb.block S h.Slt]; exact h.box, h.Sge, h.plt, h.bin.below hb, h.abv, h.farS, h.small⟩
theorem NrS.turn {B p S R kk : Nat} {w1 W W' : World} {v : Value} {bs : List BAt} (h : NrS B p w1 S kk v bs W) (hg : W.grownBy W' (some R)) (hR : w1.heap.size ≤ R) (hRS : R ≠ S) (hf : BlocksFar R v bs) : NrS B p w1 S kk v bs W' := by
  have hpR := Nat.lt_of_lt_of_le h.plt hR
  refine ⟨Kept.rd h.rd (Kept.of_grown (S := [R]) hg (fun g hg => by cases hg; simp)) (fun i hi => by rw [List.mem_singleton.1 hi]; exact hpR), ⟨hg.os.trans h.gr.os, hg.tape.trans h.gr.tape, hg.output.trans h.gr.output, Nat.le_trans h.gr.size hg.size, fun i hi hne => ?_⟩, (hg.block S h.Slt (by intro e; exact hRS (Option.some.inj e).symm)).trans h.box, h.Sge, h.plt, h.bin.far hf hg, h.abv, h.farS, h.small⟩
  have := h.gr.size
  rw [hg.block i (by omega) (by intro e; have := Option.some.inj e; omega)]; exact h.gr.block i hi hne
theorem NrS.put {B p S kk : Nat} {w1 W : World} {v : Value} {bs : List BAt} (h : NrS B p w1 S kk v bs W) {v' : Value} {bs' : List BAt} (hl : BlocksIn W v' bs') (fp : ∀ q, q < w1.heap.size → BlocksFar q v' bs') (fS : BlocksFar S v' bs') (hs : ∀ x ∈ bs', SmallX x.name x.ls) : NrS B p w1 S kk v' bs' (W.setRow S #[v']) := by
  have gs := grown_setRow W S #[v']
  have hpS := Nat.lt_of_lt_of_le h.plt h.Sge
  refine ⟨Kept.rd h.rd (Kept.of_grown (S := [S]) gs (fun g hg => by cases hg; simp)) (fun i hi => by rw [List.mem_singleton.1 hi]; exact hpS), ⟨h.gr.os, h.gr.tape, h.gr.output, by rw [setRow_size]; exact h.gr.size, fun i hi hne => ?_⟩, setRow_heap _ _ _ _ _ _ h.box, h.Sge, h.plt, hl.far fS gs, fp, fS, hs⟩
  have := h.Sge
  rw [setRow_other _ _ _ _ (by omega)]; exact h.gr.block i hi hne
theorem NrS.out {d B p S kk k n c : Nat} {w w1 W W' : World} {a : Option Addr} {v : Value} {bs bs5 : List BAt} (h : NrS B p w1 S kk v bs W) (hs1 : w1.heap.size = w.heap.size + 2) (hw : w.grownBy w1 (some p)) (hp : p < w.heap.size) (hk : kk ≤ k + d) (hl : bs.length ≤ 62) (he : bs5.map BAt.plain = bs.map BAt.plain) (ho : BlocksOwn W.heap.size W' (.slice a n c) bs5) (hb : Below W.heap.size W W') (cs : Array Value) : Spoilt d B p k w (.returned (.agg #[.slice a n c])) (W'.setRow (w.heap.size + 1) cs) := by
  have gs := grown_setRow W' (w.heap.size + 1) cs
  have h5 := h.below hb
  have hz := h.gr.size
  have hO := (ho.setRow (w.heap.size + 1) (by omega) cs).mono (show w.heap.size ≤ W.heap.size by omega)
  have hlen : bs5.length = bs.length := by have := congrArg List.length he; simpa using this
  refine ⟨a, n, c, bs5, kk, rfl, hk, Kept.rd h5.rd (Kept.of_grown (S := [w.heap.size + 1]) gs (fun g hg => by cases hg; simp)) (fun i hi => by rw [List.mem_singleton.1 hi]; omega), ⟨h5.gr.os.trans hw.os, h5.gr.tape.trans hw.tape, h5.gr.output.trans hw.output, ?_, fun i hi hne => ?_⟩, hO.bin, ⟨BlocksSmall.same ⟨by omega, h.small⟩ he, by omega⟩, fun q hq => hO.far hq⟩
  · rw [setRow_size]; have := h5.gr.size; omega
  · rw [setRow_other _ _ _ _ (by omega), h5.gr.block i (by omega) hne]; exact hw.block i hi hne
structure NrY (c S Y : Nat) (bk bn : ByteArray) (bv : Value) (ls : List LAt) (W : World) : Prop where
  box : W.heap[Y]? = some (.cells #[.string bk, .string bn, bv] 46 (0, 0))
  cY : c ≤ Y
  YS : Y ≠ S
  free : LFree c [S, Y] W bv ls
  small : SmallX bn ls
theorem NrY.lt {c S Y : Nat} {bk bn : ByteArray} {bv : Value} {ls : List LAt} {W : World} (h : NrY c S Y bk bn bv ls W) : Y < W.heap.size := (Array.getElem?_eq_some_iff.1 h.box).1
theorem NrY.below {c S Y : Nat} {bk bn : ByteArray} {bv : Value} {ls : List LAt} {W W' : World} (h : NrY c S Y bk bn bv ls W) (hb : Below W.heap.size W W') : NrY c S Y bk bn bv ls W' :=
  ⟨(hb.block Y h.lt).trans h.box, h.cY, h.YS, h.free.below hb, h.small⟩
theorem NrY.grown {c S Y p : Nat} {bk bn : ByteArray} {bv : Value} {ls : List LAt} {W W' : World} (h : NrY c S Y bk bn bv ls W) (hg : W.grownBy W' (some p)) (hp : p < c) : NrY c S Y bk bn bv ls W' := by
  have := h.cY
  exact ⟨(hg.block Y h.lt (by intro e; have := Option.some.inj e; omega)).trans h.box, h.cY, h.YS, h.free.grown hg (.inl hp), h.small⟩
theorem NrY.put {c S Y : Nat} {bk bn bk' bn' : ByteArray} {bv bv' : Value} {ls ls' : List LAt} {W W' : World} (h : NrY c S Y bk bn bv ls W) (hg : W.grownBy W' (some Y)) (hy : W'.heap[Y]? = some (.cells #[.string bk', .string bn', bv'] 46 (0, 0))) (hf : LFree c [S, Y] W bv' ls') (hs : SmallX bn' ls') : NrY c S Y bk' bn' bv' ls' W' :=
  ⟨hy, h.cY, h.YS, hf.grown hg (.inr (by simp)), hs⟩
end Go.Proofs.YtpdahhnjhggocaaGreatDoor
