import Derived.Test.YtnnpgnkmmahomabGreatDoorBun24
import Derived.Test.YtnnpgnkmmahomabGreatDoorBun23
import Derived.Test.YtnnpgnkmmahomabGreatDoorBun20
import Derived.Test.YtnnpgnkmmahomabGreatDoorBun17
namespace Go.Proofs.YtnnpgnkmmahomabGreatDoor
open Go.RowKit
theorem Mem.sub {B : Nat} {w : World} {L N : List MRow} (h : Mem B w L) (hs : N.Sublist L) : Mem B w N := ⟨fun r hr => h.1 r (hs.subset hr), h.2.sublist hs⟩
/-- A block's lines turned to others: one store into the row of blocks. -/
theorem blocks_swap {B g n cap : Nat} {w : World} {D T : List BAt} {x : BAt} {v' : Value} {ls' : List LAt} {R rest : List MRow} (h : Mem B w (R ++ brows (.slice (some ⟨g, 0, none⟩) n cap) (D ++ x :: T))) (hn : (D ++ x :: T).length = n) (hp : (R ++ lrows x.v x.ls).Perm (lrows v' ls' ++ rest)) :
    BlocksOwn B (w.setCell ⟨g, D.length * 3 + 2, none⟩ v') (.slice (some ⟨g, 0, none⟩) n cap) (D ++ ⟨x.kind, x.name, v', ls'⟩ :: T) := by
  have h1 : BM B w (.slice (some ⟨g, 0, none⟩) n cap) (D ++ x :: T) R := h.perm List.perm_append_comm
  have hst := (h1.size hn).stored (D.length * 3 + 2) v'
  rw [rowF_set _ 3 BAt.len D T x ⟨x.kind, x.name, v', ls'⟩ 2 v' (by decide) rfl] at hst
  unfold BM brows at h1
  rw [List.cons_append] at h1
  have h2 := Mem.turn (r' := ⟨.slice (some ⟨g, 0, none⟩) n cap, 52, 3, n, (D ++ ⟨x.kind, x.name, v', ls'⟩ :: T).flatMap BAt.cells⟩) h1 rfl hst.1 hst.2
  unfold BlocksOwn brows
  have e2 : (D ++ ⟨x.kind, x.name, v', ls'⟩ :: T).length = n := by rw [← hn]; simp
  rw [e2]
  refine Mem.sub (Mem.perm h2 (N := (⟨.slice (some ⟨g, 0, none⟩) n cap, 52, 3, n, (D ++ ⟨x.kind, x.name, v', ls'⟩ :: T).flatMap BAt.cells⟩ :: (D ++ ⟨x.kind, x.name, v', ls'⟩ :: T).flatMap BAt.rows) ++ rest) ?_) (List.sublist_append_left _ _)
  rw [List.cons_append]
  refine List.Perm.cons _ ?_
  rw [List.flatMap_append, List.flatMap_cons, List.flatMap_append, List.flatMap_cons]
  show ((D.flatMap BAt.rows ++ (lrows x.v x.ls ++ T.flatMap BAt.rows)) ++ R).Perm ((D.flatMap BAt.rows ++ (lrows v' ls' ++ T.flatMap BAt.rows)) ++ rest)
  have a1 : ∀ (a b c d : List MRow), ((a ++ (b ++ c)) ++ d).Perm ((d ++ b) ++ (a ++ c)) := by
    intro a b c d
    rw [List.append_assoc, List.append_assoc]
    refine (List.perm_append_comm (l₁ := a)).trans ?_
    rw [List.append_assoc, List.append_assoc]
    refine ((List.perm_append_comm_assoc b c (d ++ a))).trans ?_
    refine (List.perm_append_comm_assoc c b (d ++ a)).trans ?_
    rw [List.append_assoc]
    have : (b ++ (c ++ (d ++ a))).Perm (d ++ (b ++ (c ++ a))) := by
      refine (List.Perm.append_left b (List.perm_append_comm_assoc c d a)).trans ?_
      exact List.perm_append_comm_assoc b d (c ++ a)
    refine this.trans (List.Perm.append_left d (List.Perm.append_left b ?_))
    exact List.perm_append_comm
  refine (a1 _ _ _ _).trans (.trans (List.Perm.append_right _ hp) ?_)
  refine (List.Perm.append_right _ List.perm_append_comm).trans ?_
  exact (a1 _ _ _ _).symm
theorem filter_rows (p : LAt → Bool) (ls : List LAt) : (ls.map LAt.row).Perm ((ls.filter p).map LAt.row ++ (ls.filter (fun x => !p x)).map LAt.row) := by
  rw [← List.map_append]
  exact (List.filter_append_perm p ls).symm.map _
/-- What trimming leaves is no greater. -/
theorem trim_small {xs bs : List BAt} (h : BlocksSmall bs) (he : xs.map BAt.plain = (bs.map BAt.plain).map trimP) : BlocksSmall xs := by
  rw [List.map_map] at he
  refine ⟨by have := congrArg List.length he; simp at this; rw [this]; exact h.1, fun x hx => ?_⟩
  have : x.plain ∈ xs.map BAt.plain := List.mem_map_of_mem hx
  rw [he] at this
  obtain ⟨b, hb, eb⟩ := List.mem_map.1 this
  have hs := h.2 b hb
  have e1 : b.name = x.name := congrArg PBlock.name eb
  have e2 : (b.ls.map LAt.plain).filter (keepT (rulesOf b.kind)) = x.ls.map LAt.plain := congrArg PBlock.lines eb
  refine ⟨by rw [← e1]; exact hs.1, ?_, fun y hy => ?_⟩
  · have h1 := congrArg List.length e2
    have h2 := List.length_filter_le (keepT (rulesOf b.kind)) (b.ls.map LAt.plain)
    rw [List.length_map] at h1 h2
    have := hs.2.1
    omega
  · have hm : y.plain ∈ x.ls.map LAt.plain := List.mem_map_of_mem hy
    rw [← e2] at hm
    obtain ⟨z, hz, ez⟩ := List.mem_map.1 (List.mem_filter.1 hm).1
    have := hs.2.2 z hz
    have e3 : z.ws = y.ws := congrArg PLine.ws ez
    rw [← e3]; exact this
/-- A rule that was looked up. -/
def RuleGot (p : Plain) (P : Nat) (W : World) (e : Ending) (w' : World) : Prop := ∃ (g m c : Nat) (key : ByteArray) (av : Option Addr) (nv cv : Nat) (ad : Option Addr) (cd : Nat), e = .returned (.slice (some ⟨g, 0, none⟩) m c) ∧ ((0 : Int) ≤ (P : Int) ∧ (P : Int) < (m : Int)) ∧ (w'.cell? ⟨g, P * 4, none⟩ = some (.string key) ∧ w'.cell? ⟨g, P * 4 + 1, none⟩ = some (.slice av nv cv) ∧ w'.cell? ⟨g, P * 4 + 2, none⟩ = some (.bool p.2.2.1) ∧ w'.cell? ⟨g, P * 4 + 3, none⟩ = some (.slice ad p.2.2.2.length cd)) ∧ (w'.ownsRow W.heap.size 9 1 (.slice ad p.2.2.2.length cd) p.2.2.2.length (strs p.2.2.2)) ∧ Below W.heap.size W w'
theorem ruleGot {kind key : ByteArray} {p : Plain} (hp : pickR (rulesOf kind) key = some p) : ∃ P : Nat, placeI (rulesOf kind) key = (P : Int) ∧ ∀ W : World, Calls Tryz.prog 54 #[.string kind] W fun e w' => RuleGot p P W e w' := by
  obtain ⟨i, hi, hg, _⟩ := pick_place hp
  refine ⟨i, hi, fun W => (specRules_any kind W).mono ?_⟩
  rintro e w' ⟨v, L, rfl, hpL, hrL, b7⟩
  have hil : i < L.length := by have := (List.getElem?_eq_some_iff.1 hg).1; rw [← hpL, List.length_map] at this; exact this
  obtain ⟨D7, r7, T7, rfl, hD7⟩ := split1 L i hil
  have hpl : r7.plain = p := by
    rw [← hpL, ← hD7] at hg
    simpa using hg
  have hr7 := (show RulesIn w' v (D7 ++ r7 :: T7) from hrL.rin).2 r7 (by simp)
  have hdef := (RulesAt.rm hrL).defs
  obtain ⟨ar, cr, rfl, f1⟩ := own_form (show w'.ownsRow W.heap.size 93 4 v (D7 ++ r7 :: T7).length ((D7 ++ r7 :: T7).flatMap RAt.cells) from Mem.head hrL)
  rcases f1 with f1 | ⟨g7, rfl⟩
  · simp at f1
  have hc := fun c hc => (RulesAt.rm hrL).cell (D := D7) (r := r7) (T := T7) c hc
  obtain ⟨⟨av, nv, cv, ev⟩, _⟩ := hr7
  obtain ⟨ad, cd, ed, _⟩ := own_form hdef
  have e1 : r7.many = p.2.2.1 := by rw [← hpl]; rfl
  have e2 : r7.ds = p.2.2.2 := by rw [← hpl]; rfl
  rw [e2] at hdef ed
  rw [ed] at hdef
  have k0 := hc 0 (by decide)
  have k1 := hc 1 (by decide)
  have k2 := hc 2 (by decide)
  have k3 := hc 3 (by decide)
  rw [hD7] at k0 k1 k2 k3
  simp only [RAt.cells, List.getElem?_cons_zero, List.getElem?_cons_succ, ev, ed, e1, Nat.add_zero] at k0 k1 k2 k3
  exact ⟨g7, _, cr, r7.key, av, nv, cv, ad, cd, rfl, ⟨by omega, by simp; omega⟩, ⟨k0, k1, k2, k3⟩, hdef, b7⟩
theorem four_cells {B : Nat} {w W : World} {g o : Nat} {u0 u1 u2 u3 : Value} (hb : Below B w W) (c : w.cell? ⟨g, o, none⟩ = some u0 ∧ w.cell? ⟨g, o + 1, none⟩ = some u1 ∧ w.cell? ⟨g, o + 2, none⟩ = some u2 ∧ w.cell? ⟨g, o + 3, none⟩ = some u3) (hg : g < B) : W.cell? ⟨g, o, none⟩ = some u0 ∧ W.cell? ⟨g, o + 1, none⟩ = some u1 ∧ W.cell? ⟨g, o + 2, none⟩ = some u2 ∧ W.cell? ⟨g, o + 3, none⟩ = some u3 :=
  ⟨(hb.cell (p := ⟨g, o, none⟩) hg).trans c.1, (hb.cell (p := ⟨g, o + 1, none⟩) hg).trans c.2.1, (hb.cell (p := ⟨g, o + 2, none⟩) hg).trans c.2.2.1, (hb.cell (p := ⟨g, o + 3, none⟩) hg).trans c.2.2.2⟩
end Go.Proofs.YtnnpgnkmmahomabGreatDoor
