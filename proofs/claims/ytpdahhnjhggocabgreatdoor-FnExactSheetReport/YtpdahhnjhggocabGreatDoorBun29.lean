import Derived.Test.YtpdahhnjhggocabGreatDoorBun26
import Derived.Shelf.Strings.BuilderK
namespace Go.Proofs.YtpdahhnjhggocabGreatDoor
open Go.RowKit
def Closed (md : Region.Mode) (ops : Array Oper) (listed : Array Bool) : Prop := ∀ j oj, ops[j]? = some oj → listed.getD j false = true → ∀ e ∈ oj.after, Region.binds md e = true → listed.getD e.on false = true
theorem Closed.start (md : Region.Mode) (ops : Array Oper) (n : Nat) : Closed md ops (Array.replicate n false) := by
 intro j oj _ hl
 exfalso
 by_cases h : j < n
 ·simp [h] at hl
 ·simp [h] at hl
theorem Closed.step {md : Region.Mode} {ops : Array Oper} {listed : Array Bool} (h : Closed md ops listed) {i : Nat} (hi : i ∈ Region.ready md ops listed) : Closed md ops (listed.setIfInBounds i true) := by
 intro j oj hoj hl e he hb
 obtain ⟨_, o, ho, hall⟩ := mem_ready.1 hi
 by_cases hji : i = j
 ·subst hji
  rw [ho] at hoj
  cases hoj
  exact getD_set_true (hall e he hb)
 ·rw [getD_set_ne false hji] at hl
  exact getD_set_true (h j oj hoj hl e he hb)
def waitsB (md : Region.Mode) (ops : Array Oper) : Nat → Nat → Nat → Bool
 | 0, _, _ => false
 | f + 1, n, i => match ops[n]? with
  | none => false
  | some o => o.after.toList.any fun e => Region.binds md e && (e.on == i || waitsB md ops f e.on i)
theorem waits_un {md : Region.Mode} {ops : Array Oper} {listed : Array Bool} (h : Closed md ops listed) {i : Nat} (hi : listed.getD i false = false) : ∀ (f n : Nat), waitsB md ops f n i = true → ∃ o, ops[n]? = some o ∧ ∃ e ∈ o.after, Region.binds md e = true ∧ listed.getD e.on false = false
 | 0, _, e => by cases e
 | f + 1, n, e => by
  unfold waitsB at e
  cases ho : ops[n]? with
  | none => rw [ho] at e; cases e
  | some o =>
   rw [ho] at e
   simp only [List.any_eq_true, Bool.and_eq_true, Bool.or_eq_true, beq_iff_eq] at e
   obtain ⟨x, hx, hb, hw⟩ := e
   refine ⟨o, rfl, x, by simpa using hx, hb, ?_⟩
   rcases hw with hw | hw
   ·rw [hw]; exact hi
   ·obtain ⟨o', ho', y, hy, hyb, hyl⟩ := waits_un h hi f x.on hw
    cases hxl : listed.getD x.on false with
    | false => rfl
    | true =>
     have := h x.on o' ho' hxl y hy hyb
     rw [hyl] at this; cases this
theorem un_of_ready {md : Region.Mode} {ops : Array Oper} {listed : Array Bool} {i : Nat} (hi : i ∈ Region.ready md ops listed) : listed.getD i false = false := by
 have h0 := (mem_ready.1 hi).1
 rcases Nat.lt_or_ge i listed.size with h' | h'
 ·simp [h'] at h0 ⊢; exact h0
 ·simp [Array.getElem?_eq_none h'] at h0
theorem not_ready {md : Region.Mode} {ops : Array Oper} {listed : Array Bool} (h : Closed md ops listed) {i n f : Nat} (hi : i ∈ Region.ready md ops listed) (hw : waitsB md ops f n i = true) : n ∉ Region.ready md ops listed := by
 intro hn
 obtain ⟨o, ho, e, he, hb, hl⟩ := waits_un h (un_of_ready hi) f n hw
 obtain ⟨_, o', ho', hall⟩ := mem_ready.1 hn
 rw [ho] at ho'
 cases ho'
 rw [hall e he hb] at hl
 cases hl
def wpAnyL (P : Program) (md : Region.Mode) (ops : Array Oper) (C : World → Prop) (n : Nat) (Q : Act → Prop) : Nat → Array Bool → Act → Prop
 | 0, _, _ => False
 | f + 1, listed, a => (Region.ready md ops listed = [n] ∧ Region.ready md ops (listed.setIfInBounds n true) = [] ∧ Q a) ∨ (n ∉ Region.ready md ops listed ∧ Region.ready md ops listed ≠ [] ∧ ∀ i ∈ Region.ready md ops listed, qOp P ops C i (wpAnyL P md ops C n Q f (listed.setIfInBounds i true)) a)
theorem wpAny_of_L {P : Program} {md : Region.Mode} {ops : Array Oper} {C : World → Prop} {n : Nat} {Q : Act → Prop} {Q' : Exit → Act → World → Prop} (hQ : ∀ a w, C w → Q a → wpOp P ops Q' n (fun a w => Q' .normal a w) a w) : ∀ (f : Nat) (listed : Array Bool) (a : Act) (w : World), C w → wpAnyL P md ops C n Q f listed a → wpAny P md ops Q' f listed a w
 | 0, _, _, _, _, h => h.elim
 | f + 1, listed, a, w, hw, h => by
  rcases h with ⟨h1, h2, h3⟩ | ⟨h1, h2, h3⟩
  ·refine ⟨fun h0 => (by rw [h1] at h0; cases h0), fun i hi => ?_⟩
   rw [h1, List.mem_singleton] at hi
   subst hi
   refine wpOp_mono (fun a w hq => ?_) (hQ a w hw h3)
   cases f with
   | zero => exact ⟨h2, hq⟩
   | succ f => exact ⟨fun _ => hq, fun j hj => by rw [h2] at hj; cases hj⟩
  ·exact ⟨fun h0 => absurd h0 h2, fun i hi => wpOp_of_qOp hw (fun a' w' hw' h => wpAny_of_L hQ f _ a' w' hw' h) (h3 i hi)⟩
theorem wpAnyL_first {P : Program} {md : Region.Mode} {ops : Array Oper} {C : World → Prop} {n fw : Nat} {Q : Act → Prop} {i : Nat} {oi : Oper} {v : Value} (hi : ops[i]? = some oi) (hsel : ∀ (j : Nat) (o : Oper) cs b, ops[j]? = some o → o.op ≠ .select cs b) (hwait : waitsB md ops fw n i = true) :
  ∀ (fuel : Nat) (listed : Array Bool) (a : Act), Closed md ops listed →
   (∀ j oj, ops[j]? = some oj → j ≠ i → listed.getD j true = false → (∀ e ∈ oj.after, Region.binds md e = true → e.on ≠ i) → oi.apart ops oj = true) →
   i ∈ Region.ready md ops listed → YieldsIn P ops C oi v a →
   wpAnyL P md ops C n Q fuel (listed.setIfInBounds i true) (a.put oi.dst v) → wpAnyL P md ops C n Q (fuel + 1) listed a := by
 intro fuel
 induction fuel with
 | zero => intro listed a _ _ _ _ H; exact H.elim
 | succ fuel ih =>
  intro listed a hcl hfree hr hy H
  have hn := not_ready hcl hr hwait
  refine .inr ⟨hn, fun h => (by rw [h] at hr; cases hr), fun j hj => ?_⟩
  by_cases hji : j = i
  ·subst hji; exact hy.qOp hi H
  ·have hj' := ready_mono (i := i) hj hji
   rcases H with ⟨H1, _, _⟩ | ⟨_, _, H3⟩
   ·rw [H1, List.mem_singleton] at hj'
    exact absurd (hj' ▸ hj) hn
   have h1 := H3 j hj'
   obtain ⟨hjun, oj, hoj, hall⟩ := mem_ready.1 hj
   have hnot : ∀ e ∈ oj.after, Region.binds md e = true → e.on ≠ i := fun e he hb heq => by
    have h1 := hall e he hb
    rw [heq, un_of_ready hr] at h1
    cases h1
   have h2 := qOp_put hoj (hfree j oj hoj hji hjun hnot) (fun cs b => hsel i oi cs b hi) (fun cs b => hsel j oj cs b hoj) hy h1
   have hfree' : ∀ k ok, ops[k]? = some ok → k ≠ i → (listed.setIfInBounds j true).getD k true = false →
     (∀ e ∈ ok.after, Region.binds md e = true → e.on ≠ i) → oi.apart ops ok = true := fun k ok hk hki hun hno => by
    refine hfree k ok hk hki ?_ hno
    by_cases hjk : j = k
    ·subst hjk; exact hjun
    ·rw [getD_set_ne true hjk] at hun; exact hun
   refine qOp_mono (fun a' h3 => ih (listed.setIfInBounds j true) a' (hcl.step hj) hfree' (ready_mono hr (Ne.symm hji)) h3.1 ?_) h2
   rw [Array.setIfInBounds_comm _ _ hji]
   exact h3.2
def lexL (md : Region.Mode) (ops : Array Oper) (n : Nat) : Nat → Nat → Array Bool → Bool
 | 0, _, listed => (Region.ready md ops listed == [n]) && (Region.ready md ops (listed.setIfInBounds n true)).isEmpty
 | f + 1, k, listed => (Region.ready md ops listed).contains k && Region.free md ops listed k && waitsB md ops 40 n k && lexL md ops n f (k + 1) (listed.setIfInBounds k true)
theorem wpAnyL_lex {P : Program} {md : Region.Mode} {ops : Array Oper} {C : World → Prop} {n : Nat} {Q : Act → Prop} (hs : Region.noSelect ops = true) : ∀ (l : List Oper) (k : Nat) (listed : Array Bool) (a : Act), (∀ j o, l[j]? = some o → ops[k + j]? = some o) →
  Closed md ops listed → lexL md ops n l.length k listed = true → wpQuiet P ops C Q l a → wpAnyL P md ops C n Q (l.length + 1) listed a
 | [], _, _, _, _, _, hB, h => by
  simp only [List.length_nil, lexL, Bool.and_eq_true, beq_iff_eq, List.isEmpty_iff] at hB
  exact .inl ⟨hB.1, hB.2, h⟩
 | o :: l, k, listed, a, hl, hc, hB, h => by
  have h0 : ops[k]? = some o := by simpa using hl 0 o rfl
  simp only [List.length_cons, lexL, Bool.and_eq_true] at hB
  obtain ⟨⟨⟨hr, hf⟩, hw⟩, hB'⟩ := hB
  have hr' : k ∈ Region.ready md ops listed := by simpa using hr
  have hst : qOp P ops C k (wpQuiet P ops C Q l) a := by unfold qOp; simp only [h0]; exact h
  obtain ⟨v, hy, hK⟩ := yieldsIn_of_qOp h0 hst
  exact wpAnyL_first h0 (Region.noSelect_spec hs) hw (l.length + 1) listed a hc (Region.free_spec h0 hf) hr' hy
   (wpAnyL_lex hs l (k + 1) _ _ (fun j x hx => by have := hl (j + 1) x (by simpa using hx); simpa [Nat.add_assoc, Nat.add_comm 1 j] using this) (hc.step hr') hB' hK)
theorem wp_region_last {P : Program} {id : Nat} {Q : Exit → Act → World → Prop} {a : Act} {w : World} {l : List Oper} (n : Nat) {o : Oper} (hm : P.follows .mixedOrders = true) (ho : l[n]? = some o) (hn : l.length = n + 1) (hB : (Region.noSelect l.toArray && lexL .any l.toArray n n 0 (Array.replicate (n + 1) false)) = true)
  (h : wpQuiet P l.toArray (fun w' => ∃ p : Gr w, w' = p.u) (fun a' => ∀ p : Gr w, ∀ K : Act → World → Prop, (∀ a w, Q .normal a w → K a w) → if Region.wanted o (yielded l.toArray a'.tmps) = true then Oper.wp P o a' p.u K Q else K (a'.put o.dst undef) p.u) (l.take n) a) : (Code.region id l.toArray true).wp P Q a w := by
 rw [Bool.and_eq_true] at hB
 have hlen : (l.take n).length = n := by rw [List.length_take]; omega
 refine wp_region_any hm ?_
 have hsz : l.toArray.size = n + 1 := by simpa using hn
 rw [hsz]
 refine wpAny_of_L (C := fun w' => ∃ p : Gr w, w' = p.u) (n := n) (Q := fun a' => ∀ p : Gr w, ∀ K : Act → World → Prop, (∀ a w, Q .normal a w → K a w) → if Region.wanted o (yielded l.toArray a'.tmps) = true then Oper.wp P o a' p.u K Q else K (a'.put o.dst undef) p.u) ?_ _ _ _ _ ⟨⟨w.drew, (Below.refl _ _).drew⟩, rfl⟩ ?_
 ·rintro a' w' ⟨p, rfl⟩ hq
  have := hq p (fun a w => Q .normal a w) (fun _ _ h => h)
  unfold wpOp
  rw [List.getElem?_toArray, ho]
  simp only
  split
  ·rename_i hw; rw [if_pos hw] at this; exact .inl this
  ·rename_i hw; rw [if_neg hw] at this; exact this
 ·have := wpAnyL_lex (C := fun w' => ∃ p : Gr w, w' = p.u) (n := n) hB.1 (l.take n) 0 (Array.replicate (n + 1) false) a (fun j x hx => by
   rw [Nat.zero_add, List.getElem?_toArray]
   rw [List.getElem?_take] at hx
   split at hx
   ·exact hx
   ·cases hx) (Closed.start _ _ _) (by rw [hlen]; exact hB.2) h
  rw [hlen] at this
  exact this
theorem bldF_gr {T e : TypeId} {B b : Nat} {bs : List Value} {w u : World} (h : Lib.IsBuilderF T e B b bs w) (hb : Below w.heap.size w u) : Lib.IsBuilderF T e B b bs u := by
 have key : ∀ p, Lib.BuilderAtF T e B b p bs w → Lib.BuilderAtF T e B b p bs u := by
  rintro p ⟨h1, v, h2, h3, h4⟩
  have hlt : ∀ (k : Nat) (o : Obj), w.heap[k]? = some o → u.heap[k]? = some o := by
   intro k o hk
   have hkl : k < w.heap.size := (Array.getElem?_eq_some_iff.1 hk).1
   rw [hb.block k hkl]; exact hk
  refine ⟨h1, v, hlt _ _ h2, ?_, h4⟩
  refine ⟨h3.1, ?_⟩
  rcases h3.2 with h | ⟨g, cap, cur, fz, hv, hg1, hg2, r⟩
  ·exact .inl h
  ·exact .inr ⟨g, cap, cur, fz, hv, hg1, hlt _ _ hg2, r⟩
 rcases h with h | h
 ·exact .inl (key _ h)
 ·exact .inr (key _ h)
end Go.Proofs.YtpdahhnjhggocabGreatDoor
namespace Go.Proofs.YtpdahhnjhggocabGreatDoor
open Go.RowKit
def YieldsUp (P : Program) (ops : Array Oper) (w : World) (o : Oper) (v : Value) (a : Act) : Prop :=
 (Region.wanted o (yielded ops a.tmps) = true ∧ ∀ p : Gr w, o.quietAt P a (fun u => Below p.u.heap.size p.u u) p.u v) ∨ (Region.wanted o (yielded ops a.tmps) = false ∧ v = undef)
theorem YieldsUp.same {P : Program} {ops : Array Oper} {w : World} {o : Oper} {v : Value} {a a' : Act} (hy : YieldsUp P ops w o v a) (he : execOp a'.eval o = execOp a.eval o) (hw : Region.wanted o (yielded ops a'.tmps) = Region.wanted o (yielded ops a.tmps)) : YieldsUp P ops w o v a' := by
 unfold YieldsUp Oper.quietAt at *
 rw [he, hw]
 exact hy
theorem YieldsUp.up {P : Program} {ops : Array Oper} {w w' : World} {o : Oper} {v : Value} {a : Act} (hy : YieldsUp P ops w o v a) (hb : Below w.heap.size w w') : YieldsUp P ops w' o v a :=
 hy.imp (fun ⟨h1, h2⟩ => ⟨h1, fun p => h2 ⟨p.u, hb.trans (p.h.mono hb.size)⟩⟩) id
theorem YieldsUp.wpOp {P : Program} {ops : Array Oper} {w : World} {o : Oper} {v : Value} {a : Act} {i : Nat} {Q : Exit → Act → World → Prop} (hi : ops[i]? = some o) (hy : YieldsUp P ops w o v a) {K : Act → World → Prop} (p : Gr w) (h : ∀ u, Below p.u.heap.size p.u u → K (a.put o.dst v) u) : wpOp P ops Q i K a p.u := by
 unfold Go.wpOp
 simp only [hi]
 rcases hy with ⟨hw, hv⟩ | ⟨hw, rfl⟩
 ·simp only [hw, if_true]
  refine .inl ?_
  have h3 := hv p
  unfold Oper.quietAt at h3
  unfold Oper.wp
  generalize (execOp a.eval o).run P p.u = r at *
  cases r with
  | ok n w' =>
   cases n <;> simp only [Oper.quietUpon] at h3 <;> simp only [Oper.upon]
   case value x => obtain ⟨rfl, rfl⟩ := h3; exact h _ (Below.refl _ _)
   case skip => obtain ⟨rfl, rfl⟩ := h3; exact h _ (Below.refl _ _)
   case enter f args =>
    obtain ⟨rfl, hc⟩ := h3
    exact hc.mono fun e w'' ⟨he, hb⟩ => by subst he; exact h _ hb
  | halt x w' => simp only [Oper.quietUpon] at h3
 ·simp only [hw, Bool.false_eq_true, if_false]; exact h _ (Below.refl _ _)
theorem wpOp_shape {P : Program} {ops : Array Oper} {Q : Exit → Act → World → Prop} {j : Nat} {oj : Oper} (hj : ops[j]? = some oj) {K : Act → World → Prop} {a : Act} {w : World} (h : wpOp P ops Q j K a w) : wpOp P ops Q j (fun a' w' => (∃ u d, a' = ({ a with defers := d } : Act).put oj.dst u) ∧ K a' w') a w := by
 unfold wpOp at *
 simp only [hj] at *
 split
 ·rename_i hw
  simp only [hw, if_true] at h
  rcases h with h | h
  case inr => exact .inr h
  refine .inl ?_
  unfold Oper.wp at *
  generalize (execOp a.eval oj).run P w = r at *
  cases r with
  | ok n w' =>
   cases n <;> simp only [Oper.upon] at h ⊢
   case value u => exact ⟨⟨u, a.defers, rfl⟩, h⟩
   case skip => exact ⟨⟨undef, a.defers, rfl⟩, h⟩
   case defer d => exact ⟨⟨undef, d :: a.defers, rfl⟩, h⟩
   case enter f args =>
    refine Calls.mono h fun e w'' he => ?_
    cases e with
    | returned u => exact ⟨⟨u, a.defers, rfl⟩, he⟩
    | panicked c => exact he
    | outgrown => exact he
   case row row args => exact Rows.mono h fun u w'' he => ⟨⟨u, a.defers, rfl⟩, he⟩
  | halt x w' => cases x <;> simp only [Oper.upon] at h ⊢ <;> exact h
 ·rename_i hw
  simp only [hw] at h
  exact ⟨⟨undef, a.defers, rfl⟩, h⟩
def wpUp (P : Program) (md : Region.Mode) (ops : Array Oper) (Q : Exit → Act → World → Prop) (n : Nat) : Nat → Array Bool → Act → World → Prop
 | 0, listed, a, w => Region.ready md ops listed = [] ∧ ∀ p : Gr w, Q .normal a p.u
 | f + 1, listed, a, w => ∀ p : Gr w, (Region.ready md ops listed = [] → Q .normal a p.u) ∧ ∀ i ∈ Region.ready md ops listed, wpOp P ops Q i (fun a' u => (i = n ∧ Region.ready md ops (listed.setIfInBounds n true) = [] ∧ Q .normal a' u) ∨ (i ≠ n ∧ Below p.u.heap.size p.u u ∧ wpUp P md ops Q n f (listed.setIfInBounds i true) a' u)) a p.u
theorem wpUp_mono {P : Program} {md : Region.Mode} {ops : Array Oper} {Q : Exit → Act → World → Prop} {n : Nat} : ∀ {f : Nat} {listed : Array Bool} {a : Act} {w w' : World}, Below w.heap.size w w' → wpUp P md ops Q n f listed a w → wpUp P md ops Q n f listed a w'
 | 0, _, _, _, _, hb, h => ⟨h.1, fun p => h.2 ⟨p.u, hb.trans (p.h.mono hb.size)⟩⟩
 | _ + 1, _, _, _, _, hb, h => fun p => h ⟨p.u, hb.trans (p.h.mono hb.size)⟩
theorem wpAny_of_up {P : Program} {md : Region.Mode} {ops : Array Oper} {Q : Exit → Act → World → Prop} {n : Nat} : ∀ (f : Nat) (listed : Array Bool) (a : Act) (w : World), wpUp P md ops Q n f listed a w → wpAny P md ops Q f listed a w
 | 0, _, _, w, h => ⟨h.1, h.2 ⟨w, Below.refl _ _⟩⟩
 | f + 1, listed, a, w, h => by
  have h1 := h ⟨w, Below.refl _ _⟩
  refine ⟨h1.1, fun i hi => wpOp_mono (fun a' u hu => ?_) (h1.2 i hi)⟩
  rcases hu with ⟨rfl, hr, hq⟩ | ⟨_, _, hu⟩
  ·cases f with
   | zero => exact ⟨hr, hq⟩
   | succ f => exact ⟨fun _ => hq, fun j hj => by rw [hr] at hj; cases hj⟩
  ·exact wpAny_of_up f _ a' u hu
theorem wpUp_first {P : Program} {md : Region.Mode} {ops : Array Oper} {Q : Exit → Act → World → Prop} {n fw : Nat} {i : Nat} {oi : Oper} {v : Value} (hi : ops[i]? = some oi) (hsel : ∀ (j : Nat) (o : Oper) cs b, ops[j]? = some o → o.op ≠ .select cs b) (hwait : waitsB md ops fw n i = true ∨ ops.size ≤ n)
  (hQ : ∀ c a w, Q (.panic c) (a.put oi.dst v) w → Q (.panic c) a w) :
  ∀ (fuel : Nat) (listed : Array Bool) (a : Act) (w : World), Closed md ops listed →
   (∀ j oj, ops[j]? = some oj → j ≠ i → listed.getD j true = false → (∀ e ∈ oj.after, Region.binds md e = true → e.on ≠ i) → oi.apart ops oj = true) →
   i ∈ Region.ready md ops listed → YieldsUp P ops w oi v a →
   wpUp P md ops Q n fuel (listed.setIfInBounds i true) (a.put oi.dst v) w → wpUp P md ops Q n (fuel + 1) listed a w := by
 have hin : ∀ listed : Array Bool, Closed md ops listed → i ∈ Region.ready md ops listed → n ∉ Region.ready md ops listed := by
  intro listed hcl hr hn
  rcases hwait with hw | hw
  ·exact not_ready hcl hr hw hn
  ·obtain ⟨_, o, ho, _⟩ := mem_ready.1 hn
   rw [Array.getElem?_eq_none hw] at ho
   cases ho
 intro fuel
 induction fuel with
 | zero =>
  intro listed a w hcl _ hr hy H p
  refine ⟨fun h => (by rw [h] at hr; cases hr), fun j hj => ?_⟩
  by_cases hji : j = i
  ·subst hji
   exact hy.wpOp hi p fun u hu => .inr ⟨fun e => hin listed hcl hr (e ▸ hr), hu, wpUp_mono (p.h.trans (hu.mono p.h.size)) H⟩
  ·have := ready_mono hj hji
   rw [H.1] at this
   cases this
 | succ fuel ih =>
  intro listed a w hcl hfree hr hy H p
  refine ⟨fun h => (by rw [h] at hr; cases hr), fun j hj => ?_⟩
  by_cases hji : j = i
  ·subst hji
   exact hy.wpOp hi p fun u hu => .inr ⟨fun e => hin listed hcl hr (e ▸ hr), hu, wpUp_mono (p.h.trans (hu.mono p.h.size)) H⟩
  ·have h1 := (H p).2 j (ready_mono hj hji)
   obtain ⟨hjun, oj, hoj, hall⟩ := mem_ready.1 hj
   have hjn : j ≠ n := fun e => hin listed hcl hr (e ▸ hj)
   have hnot : ∀ e ∈ oj.after, Region.binds md e = true → e.on ≠ i := fun e he hb heq => by
    have h1 := hall e he hb
    rw [heq, un_of_ready hr] at h1
    cases h1
   have hap := hfree j oj hoj hji hjun hnot
   obtain ⟨q1, q2, q3⟩ := Oper.apart_spec hap
   have h2 := wpOp_putIf (S := fun _ => False) hoj hap (fun cs b => hsel i oi cs b hi) (fun cs b => hsel j oj cs b hoj) hQ (hy.imp (fun h => ⟨h.1, fun _ hf => hf.elim⟩) id) h1
   have hfree' : ∀ k ok, ops[k]? = some ok → k ≠ i → (listed.setIfInBounds j true).getD k true = false →
     (∀ e ∈ ok.after, Region.binds md e = true → e.on ≠ i) → oi.apart ops ok = true := fun k ok hk hki hun hno => by
    refine hfree k ok hk hki ?_ hno
    by_cases hjk : j = k
    ·subst hjk; exact hjun
    ·rw [getD_set_ne true hjk] at hun; exact hun
   refine wpOp_mono (fun a' u h3 => ?_) (wpOp_shape hoj h2)
   obtain ⟨⟨x, d, rfl⟩, _, h4⟩ := h3
   rcases h4 with ⟨e, _⟩ | ⟨_, hb, h5⟩
   ·exact absurd e hjn
   ·refine .inr ⟨hjn, hb, ih (listed.setIfInBounds j true) _ u (hcl.step hj) hfree' (ready_mono hr (Ne.symm hji)) ?_ ?_⟩
    ·have hy' : YieldsUp P ops w oi v { a with defers := d } := hy.same rfl rfl
     exact (hy'.same (execOp_put oi (fun cs b => hsel i oi cs b hi) _ oj.dst x q3) (wanted_put oi _ oj.dst x q3)).up (p.h.trans (hb.mono p.h.size))
    ·rw [Array.setIfInBounds_comm _ _ hji]
     exact h5
def wpQuietU (P : Program) (ops : Array Oper) (w : World) (Q : Act → Prop) : List Oper → Act → Prop
 | [], a => Q a
 | o :: rest, a => if Region.wanted o (yielded ops a.tmps) then ∃ v, (∀ p : Gr w, o.quietAt P a (fun u => Below p.u.heap.size p.u u) p.u v) ∧ wpQuietU P ops w Q rest (a.put o.dst v) else wpQuietU P ops w Q rest (a.put o.dst undef)
theorem wpQuietU_step {P : Program} {ops : Array Oper} {w : World} {Q : Act → Prop} {a : Act} {o : Oper} {rest : List Oper} (h : ∀ K : Act → Prop, (∀ a, wpQuietU P ops w Q rest a → K a) → if Region.wanted o (yielded ops a.tmps) then ∃ v, (∀ p : Gr w, o.quietAt P a (fun u => Below p.u.heap.size p.u u) p.u v) ∧ K (a.put o.dst v) else K (a.put o.dst undef)) : wpQuietU P ops w Q (o :: rest) a := h _ (fun _ h => h)
theorem wpQuietU_nil {P : Program} {ops : Array Oper} {w : World} {Q : Act → Prop} {a : Act} (h : Q a) : wpQuietU P ops w Q [] a := h
def lexU (md : Region.Mode) (ops : Array Oper) (n : Nat) : List Nat → Array Bool → Bool
 | [], _ => true
 | k :: ks, listed => (Region.ready md ops listed).contains k && Region.free md ops listed k && (waitsB md ops 40 n k || ops.size ≤ n) && lexU md ops n ks (listed.setIfInBounds k true)
def setU : List Nat → Array Bool → Array Bool
 | [], listed => listed
 | k :: ks, listed => setU ks (listed.setIfInBounds k true)
theorem wpUp_quiet {P : Program} {md : Region.Mode} {ops : Array Oper} {Q : Exit → Act → World → Prop} {n : Nat} {w : World} (hs : Region.noSelect ops = true) (hQ : ∀ (d : Option Tmp) v c a w, Q (.panic c) (a.put d v) w → Q (.panic c) a w) (ks : List Nat) : ∀ (l : List Oper) (f : Nat) (listed : Array Bool) (a : Act), ks.map (fun k => ops[k]?) = l.map some → Closed md ops listed → lexU md ops n ks listed = true → wpQuietU P ops w (fun a' => wpUp P md ops Q n f (setU ks listed) a' w) l a → wpUp P md ops Q n (f + ks.length) listed a w := by
 induction ks with
 | nil =>
  intro l f listed a hl _ _ h
  cases l with
  | nil => exact h
  | cons o l => simp at hl
 | cons k ks ih =>
  intro l f listed a hl hc hB h
  cases l with
  | nil => simp at hl
  | cons o l =>
   simp only [List.map_cons, List.cons.injEq] at hl
   simp only [lexU, Bool.and_eq_true] at hB
   obtain ⟨⟨⟨hr, hf⟩, hw⟩, hB'⟩ := hB
   have hr' : k ∈ Region.ready md ops listed := by simpa using hr
   have hw' : waitsB md ops 40 n k = true ∨ ops.size ≤ n := by simpa using hw
   obtain ⟨v, hy, hK⟩ : ∃ v, YieldsUp P ops w o v a ∧ wpQuietU P ops w (fun a' => wpUp P md ops Q n f (setU ks (listed.setIfInBounds k true)) a' w) l (a.put o.dst v) := by
    unfold wpQuietU at h
    by_cases hwant : Region.wanted o (yielded ops a.tmps) = true
    ·rw [if_pos hwant] at h
     obtain ⟨v, hv, hK⟩ := h
     exact ⟨v, .inl ⟨hwant, hv⟩, hK⟩
    ·rw [if_neg hwant] at h
     exact ⟨undef, .inr ⟨by simpa using hwant, rfl⟩, h⟩
   have h1 := ih l f (listed.setIfInBounds k true) (a.put o.dst v) hl.2 (hc.step hr') hB' hK
   rw [List.length_cons, ← Nat.add_assoc]
   exact wpUp_first hl.1 (Region.noSelect_spec hs) hw' (fun c a w => hQ o.dst v c a w) (f + ks.length) listed a w hc (Region.free_spec hl.1 hf) hr' hy h1
theorem wp_region_up {P : Program} {id : Nat} {Q : Exit → Act → World → Prop} {a : Act} {w : World} {ops : Array Oper} (n : Nat) (hm : P.follows .mixedOrders = true) (h : wpUp P .any ops Q n ops.size (Array.replicate ops.size false) a w) : (Code.region id ops true).wp P Q a w :=
 wp_region_any hm (wpAny_of_up _ _ _ _ (wpUp_mono ((Below.refl _ _).drew) h))
def AllUp (P : Program) (md : Region.Mode) (ops : Array Oper) (Q : Exit → Act → World → Prop) (n f : Nat) (listed : Array Bool) (a : Act) (u : World) (rs : List Nat) : Prop := ∀ i ∈ rs, wpOp P ops Q i (fun a' u' => (i = n ∧ Region.ready md ops (listed.setIfInBounds n true) = [] ∧ Q .normal a' u') ∨ (i ≠ n ∧ Below u.heap.size u u' ∧ wpUp P md ops Q n f (listed.setIfInBounds i true) a' u')) a u
theorem AllUp.nil {P : Program} {md : Region.Mode} {ops : Array Oper} {Q : Exit → Act → World → Prop} {n f : Nat} {listed : Array Bool} {a : Act} {u : World} : AllUp P md ops Q n f listed a u [] := fun _ h => by cases h
theorem AllUp.cons {P : Program} {md : Region.Mode} {ops : Array Oper} {Q : Exit → Act → World → Prop} {n f : Nat} {listed : Array Bool} {a : Act} {u : World} {i : Nat} {o : Oper} {rs : List Nat} (ho : ops[i]? = some o) (hn : i ≠ n)
  (h : ∀ K : Act → World → Prop, Shut (∀ a' u', Below u.heap.size u u' → wpUp P md ops Q n f (listed.setIfInBounds i true) a' u' → K a' u') → if Region.wanted o (yielded ops a.tmps) = true then Oper.wp P o a u K Q else K (a.put o.dst undef) u)
  (hs : AllUp P md ops Q n f listed a u rs) : AllUp P md ops Q n f listed a u (i :: rs) := fun j hj => by
 rcases List.mem_cons.1 hj with rfl | hj
 ·exact wpOp_step ho (fun K hK => h K (fun a' u' hb hw => hK a' u' (.inr ⟨hn, hb, hw⟩)))
 ·exact hs j hj
theorem wpUp_branch {P : Program} {md : Region.Mode} {ops : Array Oper} {Q : Exit → Act → World → Prop} {n f : Nat} {listed : Array Bool} {a : Act} {w : World} {rs : List Nat} (hr : Region.ready md ops listed = rs) (hne : rs ≠ []) (h : ∀ p : Gr w, AllUp P md ops Q n f listed a p.u rs) : wpUp P md ops Q n (f + 1) listed a w := fun p => ⟨fun h0 => absurd (hr ▸ h0) hne, hr ▸ h p⟩
theorem wpUp_last {P : Program} {md : Region.Mode} {ops : Array Oper} {Q : Exit → Act → World → Prop} {n f : Nat} {listed : Array Bool} {a : Act} {w : World} {o : Oper} (hr : Region.ready md ops listed = [n]) (ho : ops[n]? = some o) (he : Region.ready md ops (listed.setIfInBounds n true) = [])
  (h : ∀ p : Gr w, ∀ K : Act → World → Prop, Shut (∀ a' u', Q .normal a' u' → K a' u') → if Region.wanted o (yielded ops a.tmps) = true then Oper.wp P o a p.u K Q else K (a.put o.dst undef) p.u) : wpUp P md ops Q n (f + 1) listed a w := fun p =>
 ⟨fun h0 => (by rw [hr] at h0; cases h0), fun i hi => by
   rw [hr, List.mem_singleton] at hi
   subst hi
   exact wpOp_step ho (fun K hK => h p K (fun a' u' hq => hK a' u' (.inl ⟨rfl, he, hq⟩)))⟩
theorem wpUp_done {P : Program} {md : Region.Mode} {ops : Array Oper} {Q : Exit → Act → World → Prop} {n : Nat} {listed : Array Bool} {a : Act} {w : World} (hr : Region.ready md ops listed = []) (h : ∀ p : Gr w, Q .normal a p.u) : ∀ f, wpUp P md ops Q n f listed a w
 | 0 => ⟨hr, h⟩
 | _ + 1 => fun p => ⟨fun _ => h p, by rw [hr]; simp⟩
def closedB (md : Region.Mode) (ops : Array Oper) (listed : Array Bool) : Bool := (List.range ops.size).all fun j => match ops[j]? with
 | none => true
 | some oj => !(listed.getD j false) || oj.after.toList.all (fun e => !(Region.binds md e) || listed.getD e.on false)
theorem closed_of {md : Region.Mode} {ops : Array Oper} {listed : Array Bool} (h : closedB md ops listed = true) : Closed md ops listed := by
 intro j oj hoj hl e he hb
 have hj : j < ops.size := (Array.getElem?_eq_some_iff.1 hoj).1
 have := List.all_eq_true.1 h j (List.mem_range.2 hj)
 rw [hoj] at this
 simp only [hl, Bool.not_true, Bool.false_or] at this
 have := List.all_eq_true.1 this e (by simpa using he)
 simpa [hb] using this
def maskL {α : Type} : List Bool → List α → List α
 | true :: m, o :: l => o :: maskL m l
 | false :: m, _ :: l => maskL m l
 | _, _ => []
theorem maskL_t {α : Type} (m : List Bool) (o : α) (l : List α) : maskL (true :: m) (o :: l) = o :: maskL m l := rfl
theorem maskL_f {α : Type} (m : List Bool) (o : α) (l : List α) : maskL (false :: m) (o :: l) = maskL m l := rfl
theorem maskL_n {α : Type} (l : List α) : maskL [] l = [] := by cases l <;> rfl
def idxL : List Bool → Nat → List Nat
 | [], _ => []
 | true :: m, k => k :: idxL m (k + 1)
 | false :: m, k => idxL m (k + 1)
theorem mask_idx {α : Type} (A : List α) : ∀ (m : List Bool) (l C : List α), A = C ++ l → m.length = l.length → (idxL m C.length).map (fun k => A[k]?) = (maskL m l).map some
 | [], l, C, _, hl => by
  rw [maskL_n]; rfl
 | b :: m, [], C, _, hl => by simp at hl
 | b :: m, o :: l, C, hA, hl => by
  have ih := mask_idx A m l (C ++ [o]) (by rw [hA]; simp) (by simpa using hl)
  rw [List.length_append, List.length_singleton] at ih
  cases b with
  | false => exact ih
  | true =>
   show A[C.length]? :: _ = some o :: _
   rw [ih, hA]
   simp
theorem wpUp_mask {P : Program} {md : Region.Mode} {Q : Exit → Act → World → Prop} {n F : Nat} {w : World} {l : List Oper} {listed : Array Bool} {a : Act} (m : List Bool) (f : Nat) (hF : F = f + (idxL m 0).length) (hB : (m.length == l.length && Region.noSelect l.toArray && closedB md l.toArray listed && lexU md l.toArray n (idxL m 0) listed) = true)
  (h : wpQuietU P l.toArray w (fun a' => wpUp P md l.toArray (NoPanic Q) n f (setU (idxL m 0) listed) a' w) (maskL m l) a) : wpUp P md l.toArray (NoPanic Q) n F listed a w := by
 simp only [Bool.and_eq_true, beq_iff_eq] at hB
 obtain ⟨⟨⟨h1, h2⟩, h3⟩, h4⟩ := hB
 subst hF
 refine wpUp_quiet h2 (fun _ _ _ _ _ h => h) (idxL m 0) (maskL m l) f listed a ?_ (closed_of h3) h4 h
 have := mask_idx l m l [] rfl h1
 simpa using this
theorem wp_region_upM {P : Program} {id : Nat} {Q : Exit → Act → World → Prop} {a : Act} {w : World} {l : List Oper} (n F : Nat) (hm : P.follows .mixedOrders = true) (hF : l.length = F) (h : wpUp P .any l.toArray (NoPanic Q) n F (Array.replicate F false) a w) : (Code.region id l.toArray true).wp P Q a w := by
 subst hF
 exact wp_region_noPanic (wp_region_up n hm h)
end Go.Proofs.YtpdahhnjhggocabGreatDoor
namespace Go.Proofs.YtpdahhnjhggocabGreatDoor
open Go.RowKit
def wpHold (P : Program) (md : Region.Mode) (ops : Array Oper) (Q : Exit → Act → World → Prop) (S : World → Prop) (n : Nat) : Nat → Array Bool → Act → World → Prop
 | 0, listed, a, w => Region.ready md ops listed = [] ∧ Q .normal a w
 | f + 1, listed, a, w => (Region.ready md ops listed = [] → Q .normal a w) ∧ ∀ i ∈ Region.ready md ops listed, wpOp P ops Q i (fun a' u => (i = n ∧ Region.ready md ops (listed.setIfInBounds n true) = [] ∧ Q .normal a' u) ∨ (i ≠ n ∧ S u ∧ wpHold P md ops Q S n f (listed.setIfInBounds i true) a' u)) a w
theorem wpAny_of_hold {P : Program} {md : Region.Mode} {ops : Array Oper} {Q : Exit → Act → World → Prop} {S : World → Prop} {n : Nat} : ∀ (f : Nat) (listed : Array Bool) (a : Act) (w : World), wpHold P md ops Q S n f listed a w → wpAny P md ops Q f listed a w
 | 0, _, _, _, h => h
 | f + 1, listed, a, w, h => by
  refine ⟨h.1, fun i hi => wpOp_mono (fun a' u hu => ?_) (h.2 i hi)⟩
  rcases hu with ⟨rfl, hr, hq⟩ | ⟨_, _, hu⟩
  ·cases f with
   | zero => exact ⟨hr, hq⟩
   | succ f => exact ⟨fun _ => hq, fun j hj => by rw [hr] at hj; cases hj⟩
  ·exact wpAny_of_hold f _ a' u hu
theorem wpHold_imp {P : Program} {md : Region.Mode} {ops : Array Oper} {Q : Exit → Act → World → Prop} {S S' : World → Prop} {n : Nat} (hS : ∀ u, S' u → S u) : ∀ {f : Nat} {listed : Array Bool} {a : Act} {w : World}, wpHold P md ops Q S' n f listed a w → wpHold P md ops Q S n f listed a w
 | 0, _, _, _, h => h
 | _ + 1, _, _, _, h => ⟨h.1, fun i hi => wpOp_mono (fun _ u hu => hu.imp id (fun q => ⟨q.1, hS u q.2.1, wpHold_imp hS q.2.2⟩)) (h.2 i hi)⟩
theorem wpHold_first {P : Program} {md : Region.Mode} {ops : Array Oper} {Q : Exit → Act → World → Prop} {S : World → Prop} {n fw : Nat} {i : Nat} {oi : Oper} {v : Value} (hi : ops[i]? = some oi) (hsel : ∀ (j : Nat) (o : Oper) cs b, ops[j]? = some o → o.op ≠ .select cs b) (hwait : waitsB md ops fw n i = true ∨ ops.size ≤ n)
  (hQ : ∀ c a w, Q (.panic c) (a.put oi.dst v) w → Q (.panic c) a w) :
  ∀ (fuel : Nat) (listed : Array Bool) (a : Act) (w : World), Closed md ops listed →
   (∀ j oj, ops[j]? = some oj → j ≠ i → listed.getD j true = false → (∀ e ∈ oj.after, Region.binds md e = true → e.on ≠ i) → oi.apart ops oj = true) →
   i ∈ Region.ready md ops listed → YieldsIf P ops S oi v a → S w →
   wpHold P md ops Q S n fuel (listed.setIfInBounds i true) (a.put oi.dst v) w → wpHold P md ops Q S n (fuel + 1) listed a w := by
 have hin : ∀ listed : Array Bool, Closed md ops listed → i ∈ Region.ready md ops listed → n ∉ Region.ready md ops listed := by
  intro listed hcl hr hn
  rcases hwait with hw | hw
  ·exact not_ready hcl hr hw hn
  ·obtain ⟨_, o, ho, _⟩ := mem_ready.1 hn
   rw [Array.getElem?_eq_none hw] at ho
   cases ho
 intro fuel
 induction fuel with
 | zero =>
  intro listed a w hcl _ hr hy hS H
  refine ⟨fun h => (by rw [h] at hr; cases hr), fun j hj => ?_⟩
  by_cases hji : j = i
  ·subst hji
   exact hy.wpOp hi hS (.inr ⟨fun e => hin listed hcl hr (e ▸ hr), hS, H⟩)
  ·have := ready_mono hj hji
   rw [H.1] at this
   cases this
 | succ fuel ih =>
  intro listed a w hcl hfree hr hy hS H
  refine ⟨fun h => (by rw [h] at hr; cases hr), fun j hj => ?_⟩
  by_cases hji : j = i
  ·subst hji
   exact hy.wpOp hi hS (.inr ⟨fun e => hin listed hcl hr (e ▸ hr), hS, H⟩)
  ·have h1 := H.2 j (ready_mono hj hji)
   obtain ⟨hjun, oj, hoj, hall⟩ := mem_ready.1 hj
   have hjn : j ≠ n := fun e => hin listed hcl hr (e ▸ hj)
   have hnot : ∀ e ∈ oj.after, Region.binds md e = true → e.on ≠ i := fun e he hb heq => by
    have h1 := hall e he hb
    rw [heq, un_of_ready hr] at h1
    cases h1
   have hap := hfree j oj hoj hji hjun hnot
   have h2 := wpOp_putIf hoj hap (fun cs b => hsel i oi cs b hi) (fun cs b => hsel j oj cs b hoj) hQ hy h1
   have hfree' : ∀ k ok, ops[k]? = some ok → k ≠ i → (listed.setIfInBounds j true).getD k true = false →
     (∀ e ∈ ok.after, Region.binds md e = true → e.on ≠ i) → oi.apart ops ok = true := fun k ok hk hki hun hno => by
    refine hfree k ok hk hki ?_ hno
    by_cases hjk : j = k
    ·subst hjk; exact hjun
    ·rw [getD_set_ne true hjk] at hun; exact hun
   refine wpOp_mono (fun a' u h3 => ?_) h2
   obtain ⟨h3, h4⟩ := h3
   rcases h4 with ⟨e, _⟩ | ⟨_, hb, h5⟩
   ·exact absurd e hjn
   ·refine .inr ⟨hjn, hb, ih (listed.setIfInBounds j true) _ u (hcl.step hj) hfree' (ready_mono hr (Ne.symm hji)) h3 hb ?_⟩
    rw [Array.setIfInBounds_comm _ _ hji]
    exact h5
def wpReads (P : Program) (ops : Array Oper) (S : World → Prop) (Q : Act → Prop) : List Oper → Act → Prop
 | [], a => Q a
 | o :: rest, a => if Region.wanted o (yielded ops a.tmps) then ∃ v, (∀ p : { w : World // S w }, (execOp a.eval o).run P p.1 = .ok (.value v) p.1) ∧ wpReads P ops S Q rest (a.put o.dst v) else wpReads P ops S Q rest (a.put o.dst undef)
theorem wpReads_step {P : Program} {ops : Array Oper} {S : World → Prop} {Q : Act → Prop} {a : Act} {o : Oper} {rest : List Oper} (h : ∀ K : Act → Prop, (∀ a, wpReads P ops S Q rest a → K a) → if Region.wanted o (yielded ops a.tmps) then ∃ v, (∀ p : { w : World // S w }, (execOp a.eval o).run P p.1 = .ok (.value v) p.1) ∧ K (a.put o.dst v) else K (a.put o.dst undef)) : wpReads P ops S Q (o :: rest) a := h _ (fun _ h => h)
theorem wpReads_nil {P : Program} {ops : Array Oper} {S : World → Prop} {Q : Act → Prop} {a : Act} (h : Q a) : wpReads P ops S Q [] a := h
theorem wpHold_reads {P : Program} {md : Region.Mode} {ops : Array Oper} {Q : Exit → Act → World → Prop} {S : World → Prop} {n : Nat} {w : World} (hs : Region.noSelect ops = true) (hQ : ∀ (d : Option Tmp) v c a w, Q (.panic c) (a.put d v) w → Q (.panic c) a w) (hS : S w) (ks : List Nat) : ∀ (l : List Oper) (f : Nat) (listed : Array Bool) (a : Act), ks.map (fun k => ops[k]?) = l.map some → Closed md ops listed → lexU md ops n ks listed = true → wpReads P ops S (fun a' => wpHold P md ops Q S n f (setU ks listed) a' w) l a → wpHold P md ops Q S n (f + ks.length) listed a w := by
 induction ks with
 | nil =>
  intro l f listed a hl _ _ h
  cases l with
  | nil => exact h
  | cons o l => simp at hl
 | cons k ks ih =>
  intro l f listed a hl hc hB h
  cases l with
  | nil => simp at hl
  | cons o l =>
   simp only [List.map_cons, List.cons.injEq] at hl
   simp only [lexU, Bool.and_eq_true] at hB
   obtain ⟨⟨⟨hr, hf⟩, hw⟩, hB'⟩ := hB
   have hr' : k ∈ Region.ready md ops listed := by simpa using hr
   have hw' : waitsB md ops 40 n k = true ∨ ops.size ≤ n := by simpa using hw
   obtain ⟨v, hy, hK⟩ : ∃ v, YieldsIf P ops S o v a ∧ wpReads P ops S (fun a' => wpHold P md ops Q S n f (setU ks (listed.setIfInBounds k true)) a' w) l (a.put o.dst v) := by
    unfold wpReads at h
    by_cases hwant : Region.wanted o (yielded ops a.tmps) = true
    ·rw [if_pos hwant] at h
     obtain ⟨v, hv, hK⟩ := h
     exact ⟨v, .inl ⟨hwant, fun w hw => hv ⟨w, hw⟩⟩, hK⟩
    ·rw [if_neg hwant] at h
     exact ⟨undef, .inr ⟨by simpa using hwant, rfl⟩, h⟩
   have h1 := ih l f (listed.setIfInBounds k true) (a.put o.dst v) hl.2 (hc.step hr') hB' hK
   rw [List.length_cons, ← Nat.add_assoc]
   exact wpHold_first hl.1 (Region.noSelect_spec hs) hw' (fun c a w => hQ o.dst v c a w) (f + ks.length) listed a w hc (Region.free_spec hl.1 hf) hr' hy hS h1
theorem wpHold_mask {P : Program} {md : Region.Mode} {Q : Exit → Act → World → Prop} {S : World → Prop} {n F : Nat} {w : World} {l : List Oper} {listed : Array Bool} {a : Act} (m : List Bool) (f : Nat) (hF : F = f + (idxL m 0).length) (hB : (m.length == l.length && Region.noSelect l.toArray && closedB md l.toArray listed && lexU md l.toArray n (idxL m 0) listed) = true) (hS : S w)
  (h : wpReads P l.toArray S (fun a' => wpHold P md l.toArray (NoPanic Q) S n f (setU (idxL m 0) listed) a' w) (maskL m l) a) : wpHold P md l.toArray (NoPanic Q) S n F listed a w := by
 simp only [Bool.and_eq_true, beq_iff_eq] at hB
 obtain ⟨⟨⟨h1, h2⟩, h3⟩, h4⟩ := hB
 subst hF
 refine wpHold_reads h2 (fun _ _ _ _ _ h => h) hS (idxL m 0) (maskL m l) f listed a ?_ (closed_of h3) h4 h
 have := mask_idx l m l [] rfl h1
 simpa using this
theorem wp_region_hold {P : Program} {id : Nat} {Q : Exit → Act → World → Prop} {S : World → Prop} {a : Act} {w : World} {l : List Oper} (n F : Nat) (hm : P.follows .mixedOrders = true) (hF : l.length = F) (h : wpHold P .any l.toArray (NoPanic Q) S n F (Array.replicate F false) a w.drew) : (Code.region id l.toArray true).wp P Q a w := by
 subst hF
 exact wp_region_noPanic (wp_region_any hm (wpAny_of_hold _ _ _ _ h))
def AllHold (P : Program) (md : Region.Mode) (ops : Array Oper) (Q : Exit → Act → World → Prop) (S : World → Prop) (n f : Nat) (listed : Array Bool) (a : Act) (u : World) (rs : List Nat) : Prop := ∀ i ∈ rs, wpOp P ops Q i (fun a' u' => (i = n ∧ Region.ready md ops (listed.setIfInBounds n true) = [] ∧ Q .normal a' u') ∨ (i ≠ n ∧ S u' ∧ wpHold P md ops Q S n f (listed.setIfInBounds i true) a' u')) a u
theorem AllHold.nil {P : Program} {md : Region.Mode} {ops : Array Oper} {Q : Exit → Act → World → Prop} {S : World → Prop} {n f : Nat} {listed : Array Bool} {a : Act} {u : World} : AllHold P md ops Q S n f listed a u [] := fun _ h => by cases h
theorem AllHold.cons {P : Program} {md : Region.Mode} {ops : Array Oper} {Q : Exit → Act → World → Prop} {S : World → Prop} {n f : Nat} {listed : Array Bool} {a : Act} {u : World} {i : Nat} {o : Oper} {rs : List Nat} (ho : ops[i]? = some o) (hn : i ≠ n)
  (h : ∀ K : Act → World → Prop, Shut (∀ a' u', S u' → wpHold P md ops Q S n f (listed.setIfInBounds i true) a' u' → K a' u') → if Region.wanted o (yielded ops a.tmps) = true then Oper.wp P o a u K Q else K (a.put o.dst undef) u)
  (hs : AllHold P md ops Q S n f listed a u rs) : AllHold P md ops Q S n f listed a u (i :: rs) := fun j hj => by
 rcases List.mem_cons.1 hj with rfl | hj
 ·exact wpOp_step ho (fun K hK => h K (fun a' u' hb hw => hK a' u' (.inr ⟨hn, hb, hw⟩)))
 ·exact hs j hj
theorem wpHold_branch {P : Program} {md : Region.Mode} {ops : Array Oper} {Q : Exit → Act → World → Prop} {S : World → Prop} {n f : Nat} {listed : Array Bool} {a : Act} {w : World} {rs : List Nat} (hr : Region.ready md ops listed = rs) (hne : rs ≠ []) (h : AllHold P md ops Q S n f listed a w rs) : wpHold P md ops Q S n (f + 1) listed a w := ⟨fun h0 => absurd (hr ▸ h0) hne, hr ▸ h⟩
theorem wpHold_last {P : Program} {md : Region.Mode} {ops : Array Oper} {Q : Exit → Act → World → Prop} {S : World → Prop} {n f : Nat} {listed : Array Bool} {a : Act} {w : World} {o : Oper} (hr : Region.ready md ops listed = [n]) (ho : ops[n]? = some o) (he : Region.ready md ops (listed.setIfInBounds n true) = [])
  (h : ∀ K : Act → World → Prop, Shut (∀ a' u', Q .normal a' u' → K a' u') → if Region.wanted o (yielded ops a.tmps) = true then Oper.wp P o a w K Q else K (a.put o.dst undef) w) : wpHold P md ops Q S n (f + 1) listed a w :=
 ⟨fun h0 => (by rw [hr] at h0; cases h0), fun i hi => by
   rw [hr, List.mem_singleton] at hi
   subst hi
   exact wpOp_step ho (fun K hK => h K (fun a' u' hq => hK a' u' (.inl ⟨rfl, he, hq⟩)))⟩
end Go.Proofs.YtpdahhnjhggocabGreatDoor
namespace Go.Proofs.YtpdahhnjhggocabGreatDoor
open Go.RowKit
def upd (L : Nat → Bool) (i : Nat) : Nat → Bool := fun j => if j = i then true else L j
def predsB (md : Region.Mode) (ops : Array Oper) (i : Nat) : List Nat := match ops[i]? with
 | none => []
 | some o => (o.after.toList.filter (fun e => Region.binds md e)).map (fun e => e.on)
def AllInv (P : Program) (md : Region.Mode) (ops : Array Oper) (Q : Exit → Act → World → Prop) (Inv : (Nat → Bool) → Act → World → Prop) (n : Nat) (is : List Nat) : Prop := ∀ i ∈ is, ∀ (L : Nat → Bool) (a : Act) (w : World), L i = false → (∀ j ∈ predsB md ops i, L j = true) → Inv L a w → wpOp P ops Q i (fun a' u => if i = n then Q .normal a' u else Inv (upd L i) a' u) a w
theorem AllInv.nil {P : Program} {md : Region.Mode} {ops : Array Oper} {Q : Exit → Act → World → Prop} {Inv : (Nat → Bool) → Act → World → Prop} {n : Nat} : AllInv P md ops Q Inv n [] := fun _ h => by cases h
theorem AllInv.cons {P : Program} {md : Region.Mode} {ops : Array Oper} {Q : Exit → Act → World → Prop} {Inv : (Nat → Bool) → Act → World → Prop} {n i : Nat} {o : Oper} {is : List Nat} (js : List Nat) (ho : ops[i]? = some o) (hn : i ≠ n) (hp : predsB md ops i = js)
  (h : ∀ (L : Nat → Bool) (a : Act) (w : World), L i = false → (∀ j ∈ js, L j = true) → Inv L a w → ∀ K : Act → World → Prop, Shut (∀ a' u', Inv (upd L i) a' u' → K a' u') → if Region.wanted o (yielded ops a.tmps) = true then Oper.wp P o a w K Q else K (a.put o.dst undef) w)
  (hs : AllInv P md ops Q Inv n is) : AllInv P md ops Q Inv n (i :: is) := fun j hj => by
 rcases List.mem_cons.1 hj with rfl | hj
 ·intro L a w h0 h1 h2
  exact wpOp_step ho (fun K hK => h L a w h0 (hp ▸ h1) h2 K (fun a' u' hi => hK a' u' (by rw [if_neg hn]; exact hi)))
 ·exact hs j hj
theorem AllInv.last {P : Program} {md : Region.Mode} {ops : Array Oper} {Q : Exit → Act → World → Prop} {Inv : (Nat → Bool) → Act → World → Prop} {n : Nat} {o : Oper} (js : List Nat) (ho : ops[n]? = some o) (hp : predsB md ops n = js)
  (h : ∀ (L : Nat → Bool) (a : Act) (w : World), L n = false → (∀ j ∈ js, L j = true) → Inv L a w → ∀ K : Act → World → Prop, Shut (∀ a' u', Q .normal a' u' → K a' u') → if Region.wanted o (yielded ops a.tmps) = true then Oper.wp P o a w K Q else K (a.put o.dst undef) w) : AllInv P md ops Q Inv n [n] := fun j hj => by
 rw [List.mem_singleton] at hj
 subst hj
 intro L a w h0 h1 h2
 exact wpOp_step ho (fun K hK => h L a w h0 (hp ▸ h1) h2 K (fun a' u' hq => hK a' u' (by rw [if_pos rfl]; exact hq)))
def lowB (md : Region.Mode) (ops : Array Oper) (n : Nat) : Bool := (List.range ops.size).all (fun i => (predsB md ops i).all (fun j => decide (j < i))) && (List.range ops.size).all (fun j => j == n || ((predsB md ops n).contains j || (predsB md ops n).any (fun m => (predsB md ops m).contains j))) && decide (n < ops.size)
def unlN (listed : Array Bool) : Nat := listed.toList.countP (fun b => !b)
theorem preds_spec {md : Region.Mode} {ops : Array Oper} {i : Nat} {o : Oper} (ho : ops[i]? = some o) {j : Nat} : j ∈ predsB md ops i ↔ ∃ e ∈ o.after, Region.binds md e = true ∧ e.on = j := by
 unfold predsB
 rw [ho]
 simp only [List.mem_map, List.mem_filter, Array.mem_toList_iff]
 constructor
 ·rintro ⟨e, ⟨h1, h2⟩, h3⟩; exact ⟨e, h1, h2, h3⟩
 ·rintro ⟨e, h1, h2, h3⟩; exact ⟨e, ⟨h1, h2⟩, h3⟩
theorem getD_sized {listed : Array Bool} {j : Nat} (h : j < listed.size) (a b : Bool) : listed.getD j a = listed.getD j b := by simp [h]
theorem ex_ready {md : Region.Mode} {ops : Array Oper} {listed : Array Bool} (hs : listed.size = ops.size) (hlow : ∀ i, i < ops.size → ∀ j ∈ predsB md ops i, j < i) : ∀ j, j < ops.size → listed.getD j true = false → ∃ i, i ∈ Region.ready md ops listed := by
 intro j
 induction j using Nat.strongRecOn with
 | _ j ih =>
  intro hj h0
  by_cases hall : ∀ k ∈ predsB md ops j, listed.getD k true = true
  ·refine ⟨j, mem_ready.2 ⟨h0, ops[j], Array.getElem?_eq_getElem hj, fun e he hb => ?_⟩⟩
   have hm : e.on ∈ predsB md ops j := (preds_spec (Array.getElem?_eq_getElem hj)).2 ⟨e, he, hb, rfl⟩
   have hl := hlow j hj _ hm
   rw [getD_sized (by omega) false true]
   exact hall _ hm
  ·simp only [Classical.not_forall, Bool.not_eq_true] at hall
   obtain ⟨k, hk, h1⟩ := hall
   have hl := hlow j hj k hk
   exact ih k hl (by omega) h1
theorem unl_set {listed : Array Bool} {i : Nat} (hi : i < listed.size) (h : listed.getD i true = false) : unlN listed = unlN (listed.setIfInBounds i true) + 1 := by
 unfold unlN
 rw [Array.toList_setIfInBounds]
 have hl : i < listed.toList.length := by simpa using hi
 have h1 : listed.toList[i] = false := by simpa [hi] using h
 rw [List.countP_set hl, h1]
 have : 0 < listed.toList.countP (fun b => !b) := List.countP_pos_iff.2 ⟨false, h1 ▸ List.getElem_mem hl, rfl⟩
 simp only [Bool.not_false, if_true, Bool.not_true, Bool.false_eq_true, if_false]
 omega
theorem upd_listed {listed : Array Bool} {i : Nat} (hi : i < listed.size) : (fun j => (listed.setIfInBounds i true).getD j true) = upd (fun j => listed.getD j true) i := by
 funext j
 unfold upd
 by_cases h : j = i
 ·subst h; simp [hi]
 ·rw [if_neg h, getD_set_ne true (Ne.symm h)]
theorem wpAny_inv {P : Program} {md : Region.Mode} {ops : Array Oper} {Q : Exit → Act → World → Prop} {Inv : (Nat → Bool) → Act → World → Prop} {n : Nat} (hB : lowB md ops n = true) (hall : AllInv P md ops Q Inv n (List.range ops.size)) :
  ∀ (f : Nat) (listed : Array Bool) (a : Act) (w : World), Closed md ops listed → listed.size = ops.size → listed.getD n true = false → unlN listed = f → Inv (fun j => listed.getD j true) a w → wpAny P md ops Q f listed a w := by
 unfold lowB at hB
 simp only [Bool.and_eq_true, List.all_eq_true, List.mem_range, decide_eq_true_eq, Bool.or_eq_true, beq_iff_eq, List.contains_iff_mem, List.any_eq_true] at hB
 obtain ⟨⟨hlow, hcov⟩, hn⟩ := hB
 intro f
 induction f with
 | zero =>
  intro listed a w _ hs h0 hu _
  rw [unl_set (by omega) h0] at hu
  omega
 | succ f ih =>
  intro listed a w hcl hs h0 hu hI
  refine ⟨fun hr => ?_, fun i hi => ?_⟩
  ·obtain ⟨i, hi⟩ := ex_ready hs hlow n hn h0
   rw [hr] at hi; cases hi
  ·obtain ⟨hiun, o, ho, hpre⟩ := mem_ready.1 hi
   have hil : i < ops.size := (Array.getElem?_eq_some_iff.1 ho).1
   have hL : ∀ j ∈ predsB md ops i, listed.getD j true = true := by
    intro j hj
    obtain ⟨e, he, hb, rfl⟩ := (preds_spec ho).1 hj
    have := hlow i hil _ hj
    rw [getD_sized (by omega) true false]
    exact hpre e he hb
   refine wpOp_mono (fun a' u hu' => ?_) (hall i (List.mem_range.2 hil) _ a w hiun hL hI)
   have hset := unl_set (by omega) hiun
   by_cases hin : i = n
   ·subst hin
    rw [if_pos rfl] at hu'
    have hz : ∀ j, (listed.setIfInBounds i true).getD j true = true := by
     intro j
     have := congrFun (upd_listed (listed := listed) (i := i) (by omega)) j
     rw [this]
     unfold upd
     split
     ·rfl
     ·rename_i hne
      by_cases hj : j < ops.size
      ·rcases hcov j hj with e | hm | ⟨m, hm1, hm2⟩
       ·exact absurd e hne
       ·exact hL j hm
       ·have hml := hL m hm1
        have hmi := hlow i hil m hm1
        have hms : m < ops.size := by omega
        obtain ⟨e, he, hb, rfl⟩ := (preds_spec (Array.getElem?_eq_getElem hms)).1 hm2
        have := hcl m ops[m] (Array.getElem?_eq_getElem hms) (by rw [getD_sized (by omega) false true]; exact hml) e he hb
        show listed.getD e.on true = true
        rw [getD_sized (show e.on < listed.size by omega) true false]; exact this
      ·have : listed.size ≤ j := by omega
       simp [this]
    have hrd : Region.ready md ops (listed.setIfInBounds i true) = [] := by
     rw [List.eq_nil_iff_forall_not_mem]
     intro j hj
     have := (mem_ready.1 hj).1
     rw [hz j] at this; cases this
    cases f with
    | zero => exact ⟨hrd, hu'⟩
    | succ f => exact ⟨fun _ => hu', fun j hj => by rw [hrd] at hj; cases hj⟩
   ·rw [if_neg hin] at hu'
    refine ih _ _ _ (hcl.step hi) (by simpa using hs) ?_ (by omega) (by rw [upd_listed (by omega)]; exact hu')
    rw [getD_set_ne true hin]; exact h0
theorem unl_rep (F : Nat) : unlN (Array.replicate F false) = F := by unfold unlN; rw [Array.toList_replicate, List.countP_replicate]; rfl
theorem wp_region_inv {P : Program} {id : Nat} {Q : Exit → Act → World → Prop} {a : Act} {w : World} {l : List Oper} (Inv : (Nat → Bool) → Act → World → Prop) (n F : Nat) (is : List Nat) (hm : P.follows .mixedOrders = true) (hF : l.length = F) (his : List.range F = is) (hB : lowB .any l.toArray n = true) (start : Inv (fun j => decide (F ≤ j)) a w.drew) (hall : AllInv P .any l.toArray (NoPanic Q) Inv n is) : (Code.region id l.toArray true).wp P Q a w := by
 subst hF his
 refine wp_region_noPanic (wp_region_any hm ?_)
 have hn : n < l.length := by unfold lowB at hB; simp only [Bool.and_eq_true, decide_eq_true_eq, List.size_toArray] at hB; exact hB.2
 refine wpAny_inv hB (by simpa using hall) _ _ _ _ (Closed.start _ _ _) (by simp) (by simp [hn]) (by rw [unl_rep]) ?_
 have : (fun j => (Array.replicate l.toArray.size false).getD j true) = fun j => decide (l.length ≤ j) := by
  funext j
  by_cases hj : j < l.length
  ·simp [hj]
  ·simp [hj]; omega
 rw [this]
 exact start
def InvG (A : (Nat → Value) → Act) (F : Nat → Value → World → Prop) (G : (Nat → Bool) → World → Prop) (L : Nat → Bool) (a : Act) (W : World) : Prop := ∃ v : Nat → Value, a = A v ∧ (∀ i, L i = true → F i (v i) W) ∧ G L W
theorem InvG.next {A : (Nat → Value) → Act} {F : Nat → Value → World → Prop} {G : (Nat → Bool) → World → Prop} {L : Nat → Bool} {v : Nat → Value} {W W' : World} {a' : Act} (h : ∀ i, L i = true → F i (v i) W) (i : Nat) (x : Value) (ha : a' = A (fun j => if j = i then x else v j)) (hkeep : ∀ j y, F j y W → F j y W') (hi : F i x W') (hG : G (upd L i) W') : InvG A F G (upd L i) a' W' := by
 refine ⟨_, ha, fun j hj => ?_, hG⟩
 by_cases e : j = i
 ·subst e; simpa using hi
 ·simp only [e, if_false]
  refine hkeep j _ (h j ?_)
  simpa [upd, e] using hj
def setS : List Nat → (Nat → Value) → Nat → Array Value → Array Value
 | [], _, _, t => t
 | d :: ds, v, k, t => setS ds v (k + 1) (t.setIfInBounds d (v k))
def putS (a : Act) (ds : List Nat) (v : Nat → Value) : Act := { a with tmps := setS ds v 0 a.tmps }
theorem wp_region_invS {P : Program} {id : Nat} {Q : Exit → Act → World → Prop} {a : Act} {w : World} {l : List Oper} (ds : List Nat) (F0 : Nat → Value → World → Prop) (G0 : (Nat → Bool) → World → Prop) (n F : Nat) (is : List Nat) (hm : P.follows .mixedOrders = true) (hF : l.length = F) (his : List.range F = is) (hB : lowB .any l.toArray n = true) (v0 : Nat → Value) (h0 : a = putS a ds v0) (h1 : ∀ i, F ≤ i → F0 i (v0 i) w.drew) (hG : G0 (fun j => decide (F ≤ j)) w.drew) (hall : AllInv P .any l.toArray (NoPanic Q) (InvG (putS a ds) F0 G0) n is) : (Code.region id l.toArray true).wp P Q a w :=
 wp_region_inv (InvG (putS a ds) F0 G0) n F is hm hF his hB ⟨v0, h0, fun i hi => h1 i (by simpa using hi), hG⟩ hall
end Go.Proofs.YtpdahhnjhggocabGreatDoor
namespace Go.Proofs.YtpdahhnjhggocabGreatDoor
open Go.RowKit
def lowE (md : Region.Mode) (ops : Array Oper) : Bool := (List.range ops.size).all (fun i => (predsB md ops i).all (fun j => decide (j < i)))
theorem wpAny_invE {P : Program} {md : Region.Mode} {ops : Array Oper} {Q : Exit → Act → World → Prop} {Inv : (Nat → Bool) → Act → World → Prop} (hB : lowE md ops = true) (hall : AllInv P md ops Q Inv ops.size (List.range ops.size)) (hend : ∀ (L : Nat → Bool) (a : Act) (w : World), (∀ j, L j = true) → Inv L a w → Q .normal a w) :
  ∀ (f : Nat) (listed : Array Bool) (a : Act) (w : World), Closed md ops listed → listed.size = ops.size → unlN listed = f → Inv (fun j => listed.getD j true) a w → wpAny P md ops Q f listed a w := by
 unfold lowE at hB
 simp only [List.all_eq_true, List.mem_range, decide_eq_true_eq] at hB
 have hlow := hB
 intro f
 induction f with
 | zero =>
  intro listed a w _ hs hu hI
  have hz : ∀ j, listed.getD j true = true := by
   intro j
   by_cases hj : j < listed.size
   ·have := List.countP_eq_zero.1 hu listed[j] (by simp)
    simpa [hj] using this
   ·simp [Nat.le_of_not_lt hj]
  refine ⟨?_, hend _ a w hz hI⟩
  rw [List.eq_nil_iff_forall_not_mem]
  intro j hj
  have := (mem_ready.1 hj).1
  rw [hz j] at this; cases this
 | succ f ih =>
  intro listed a w hcl hs hu hI
  refine ⟨fun hr => ?_, fun i hi => ?_⟩
  ·obtain ⟨b, hb, hb2⟩ := List.countP_pos_iff.1 (show 0 < listed.toList.countP (fun b => !b) by unfold unlN at hu; omega)
   obtain ⟨j, hj, e⟩ := List.mem_iff_getElem.1 hb
   have hj' : j < listed.size := by simpa using hj
   obtain ⟨i, hi⟩ := ex_ready hs hlow j (by omega) (by
    have e2 : listed[j] = b := by simpa using e
    simp only [hj', Array.getD_eq_getD_getElem?, Array.getElem?_eq_getElem, Option.getD_some, e2]
    simpa using hb2)
   rw [hr] at hi; cases hi
  ·obtain ⟨hiun, o, ho, hpre⟩ := mem_ready.1 hi
   have hil : i < ops.size := (Array.getElem?_eq_some_iff.1 ho).1
   have hL : ∀ j ∈ predsB md ops i, listed.getD j true = true := by
    intro j hj
    obtain ⟨e, he, hb, rfl⟩ := (preds_spec ho).1 hj
    have := hlow i hil _ hj
    rw [getD_sized (by omega) true false]
    exact hpre e he hb
   refine wpOp_mono (fun a' u hu' => ?_) (hall i (List.mem_range.2 hil) _ a w hiun hL hI)
   have hset := unl_set (by omega) hiun
   rw [if_neg (by omega)] at hu'
   exact ih _ _ _ (hcl.step hi) (by simpa using hs) (by omega) (by rw [upd_listed (by omega)]; exact hu')
theorem wp_region_invE {P : Program} {id : Nat} {Q : Exit → Act → World → Prop} {a : Act} {w : World} {l : List Oper} (ds : List Nat) (F0 : Nat → Value → World → Prop) (G0 : (Nat → Bool) → World → Prop) (F : Nat) (is : List Nat) (hm : P.follows .mixedOrders = true) (hF : l.length = F) (his : List.range F = is) (hB : lowE .any l.toArray = true) (v0 : Nat → Value) (h0 : a = putS a ds v0) (h1 : ∀ i, F ≤ i → F0 i (v0 i) w.drew) (hG : G0 (fun j => decide (F ≤ j)) w.drew) (hall : AllInv P .any l.toArray (NoPanic Q) (InvG (putS a ds) F0 G0) F is) (hend : ∀ (v : Nat → Value) (w' : World) (L : Nat → Bool), (∀ j, L j = true) → (∀ i, F0 i (v i) w') → G0 L w' → NoPanic Q .normal (putS a ds v) w') : (Code.region id l.toArray true).wp P Q a w := by
 subst hF his
 refine wp_region_noPanic (wp_region_any hm ?_)
 refine wpAny_invE (Inv := InvG (putS a ds) F0 G0) hB (by simpa using hall) (fun L a' w' hL ⟨v, e, hv, hg⟩ => by rw [e]; exact hend v w' L hL (fun i => hv i (hL i)) hg) _ _ _ _ (Closed.start _ _ _) (by simp) (by rw [unl_rep]) ?_
 have : (fun j => (Array.replicate l.toArray.size false).getD j true) = fun j => decide (l.length ≤ j) := by
  funext j
  by_cases hj : j < l.length
  ·simp [hj]
  ·simp [hj]; omega
 rw [this]
 exact ⟨v0, h0, fun i hi => h1 i (by simpa using hi), hG⟩
theorem setS_self : ∀ (ds : List Nat) (t : Array Value) (k : Nat) (v : Nat → Value), (∀ j, j < ds.length → v (k + j) = t.getD (ds.getD j 0) undef) → setS ds v k t = t
 | [], _, _, _, _ => rfl
 | d :: ds, t, k, v, h => by
  have h0 : v k = t.getD d undef := by simpa using h 0 (by simp)
  have e : t.setIfInBounds d (v k) = t := by
   rw [h0]
   by_cases hd : d < t.size
   ·refine Array.ext (by simp) fun i h1 h2 => ?_
    rw [Array.getElem_setIfInBounds]
    split
    ·rename_i e
     subst e
     simp
    ·rfl
   ·rw [Array.setIfInBounds_eq_of_size_le (by omega)]
  unfold setS
  rw [e]
  refine setS_self ds t (k + 1) v fun j hj => ?_
  have := h (j + 1) (by simpa using hj)
  rw [show k + (j + 1) = k + 1 + j by omega] at this
  simpa using this
theorem putS_self (a : Act) (ds : List Nat) : a = putS a ds (fun i => a.tmps.getD (ds.getD i 0) undef) := by
 unfold putS
 rw [setS_self ds a.tmps 0 _ (fun j _ => by rw [Nat.zero_add])]
theorem wp_region_invE0 {P : Program} {id : Nat} {Q : Exit → Act → World → Prop} {a : Act} {w : World} {l : List Oper} (ds : List Nat) (F0 : Nat → Value → World → Prop) (G0 : (Nat → Bool) → World → Prop) (F : Nat) (is : List Nat) (hm : P.follows .mixedOrders = true) (hF : l.length = F) (his : List.range F = is) (hB : lowE .any l.toArray = true) (h1 : ∀ i x W, F ≤ i → F0 i x W) (hG : G0 (fun j => decide (F ≤ j)) w.drew) (hall : AllInv P .any l.toArray (NoPanic Q) (InvG (putS a ds) F0 G0) F is) (hend : ∀ (v : Nat → Value) (w' : World) (L : Nat → Bool), (∀ j, L j = true) → (∀ i, F0 i (v i) w') → G0 L w' → NoPanic Q .normal (putS a ds v) w') : (Code.region id l.toArray true).wp P Q a w :=
 wp_region_invE ds F0 G0 F is hm hF his hB _ (putS_self a ds) (fun i hi => h1 i _ _ hi) hG hall hend
theorem wp_region_invS0 {P : Program} {id : Nat} {Q : Exit → Act → World → Prop} {a : Act} {w : World} {l : List Oper} (ds : List Nat) (F0 : Nat → Value → World → Prop) (G0 : (Nat → Bool) → World → Prop) (n F : Nat) (is : List Nat) (hm : P.follows .mixedOrders = true) (hF : l.length = F) (his : List.range F = is) (hB : lowB .any l.toArray n = true) (h1 : ∀ i x W, F ≤ i → F0 i x W) (hG : G0 (fun j => decide (F ≤ j)) w.drew) (hall : AllInv P .any l.toArray (NoPanic Q) (InvG (putS a ds) F0 G0) n is) : (Code.region id l.toArray true).wp P Q a w :=
 wp_region_invS ds F0 G0 n F is hm hF his hB _ (putS_self a ds) (fun i hi => h1 i _ _ hi) hG hall
structure Lid (p : Prop) : Prop where
 out : p
theorem AllInv.consQ {P : Program} {md : Region.Mode} {ops : Array Oper} {Q : Exit → Act → World → Prop} {Inv : (Nat → Bool) → Act → World → Prop} {n i : Nat} {o : Oper} {is : List Nat} (js : List Nat) (ho : ops[i]? = some o) (hn : i ≠ n) (hp : predsB md ops i = js) (hgd : o.guard = none)
  (h : ∀ (Q' : Exit → Act → World → Prop) (L : Nat → Bool) (a : Act) (w : World), L i = false → (∀ j ∈ js, L j = true) → Inv L a w → ∀ K : Act → World → Prop, Shut (∀ a' u', Inv (upd L i) a' u' → K a' u') → Lid (Oper.wp P o a w K Q'))
  (hs : AllInv P md ops Q Inv n is) : AllInv P md ops Q Inv n (i :: is) :=
 AllInv.cons js ho hn hp (fun L a w h0 h1 h2 K hK => by
  rw [if_pos (by simp [Region.wanted, hgd])]
  exact (h Q L a w h0 h1 h2 K hK).out) hs
theorem AllInv.lastQ {P : Program} {md : Region.Mode} {ops : Array Oper} {Q : Exit → Act → World → Prop} {Inv : (Nat → Bool) → Act → World → Prop} {n : Nat} {o : Oper} (js : List Nat) (ho : ops[n]? = some o) (hp : predsB md ops n = js) (hgd : o.guard = none)
  (h : ∀ (Q' : Exit → Act → World → Prop) (L : Nat → Bool) (a : Act) (w : World), L n = false → (∀ j ∈ js, L j = true) → Inv L a w → ∀ K : Act → World → Prop, Shut (∀ a' u', Q .normal a' u' → K a' u') → Lid (Oper.wp P o a w K Q')) : AllInv P md ops Q Inv n [n] :=
 AllInv.last js ho hp (fun L a w h0 h1 h2 K hK => by
  rw [if_pos (by simp [Region.wanted, hgd])]
  exact (h Q L a w h0 h1 h2 K hK).out)
theorem InvG.nextL {A : (Nat → Value) → Act} {F : Nat → Value → World → Prop} {G : (Nat → Bool) → World → Prop} {L : Nat → Bool} {v : Nat → Value} {W W' : World} {a' : Act} (h : ∀ i, L i = true → F i (v i) W) (i : Nat) (x : Value) (ha : a' = A (fun j => if j = i then x else v j)) (hkeep : ∀ j y, L j = true → F j y W → F j y W') (hi : F i x W') (hG : G (upd L i) W') : InvG A F G (upd L i) a' W' := by
 refine ⟨_, ha, fun j hj => ?_, hG⟩
 by_cases e : j = i
 ·subst e; simpa using hi
 ·simp only [e, if_false]
  have hl : L j = true := by simpa [upd, e] using hj
  exact hkeep j _ hl (h j hl)
end Go.Proofs.YtpdahhnjhggocabGreatDoor
namespace Go.Proofs.YtpdahhnjhggocabGreatDoor
open Go.RowKit
theorem eval_const (a : Act) (x : Value) : a.eval (.const x) = x := rfl
theorem eval_func (a : Act) (f : FuncId) : a.eval (.func f) = .func (.func f) #[] #[] := rfl
theorem setS_out : ∀ (ds : List Nat) (v : Nat → Value) (k : Nat) (t : Array Value) (s : Nat), s ∉ ds → (setS ds v k t).getD s undef = t.getD s undef
 | [], _, _, _, _, _ => rfl
 | d :: ds, v, k, t, s, h => by
  unfold setS
  rw [setS_out ds v (k + 1) _ s (fun e => h (List.mem_cons_of_mem _ e))]
  have hne : d ≠ s := fun e => h (by rw [e]; exact List.mem_cons_self ..)
  simp [hne]
theorem setS_in : ∀ (ds : List Nat) (v : Nat → Value) (k : Nat) (t : Array Value) (j d : Nat), ds.Nodup → ds[j]? = some d → d < t.size → (setS ds v k t).getD d undef = v (k + j)
 | [], _, _, _, _, _, _, h, _ => by simp at h
 | d0 :: ds, v, k, t, 0, d, hn, h, hd => by
  have e : d0 = d := by simpa using h
  subst e
  unfold setS
  rw [setS_out ds v (k + 1) _ d0 (List.nodup_cons.1 hn).1]
  simp [hd]
 | d0 :: ds, v, k, t, j + 1, d, hn, h, hd => by
  unfold setS
  rw [setS_in ds v (k + 1) _ j d (List.nodup_cons.1 hn).2 (by simpa using h) (by simpa using hd), show k + 1 + j = k + (j + 1) by omega]
theorem setS_comm : ∀ (ds : List Nat) (v : Nat → Value) (k : Nat) (t : Array Value) (d : Nat) (x : Value), d ∉ ds → (setS ds v k t).setIfInBounds d x = setS ds v k (t.setIfInBounds d x)
 | [], _, _, _, _, _, _ => rfl
 | d0 :: ds, v, k, t, d, x, h => by
  unfold setS
  have hne : d0 ≠ d := fun e => h (by rw [e]; exact List.mem_cons_self ..)
  rw [setS_comm ds v (k + 1) _ d x (fun e => h (List.mem_cons_of_mem _ e)), Array.setIfInBounds_comm _ _ hne]
theorem setS_same : ∀ (ds : List Nat) (v v' : Nat → Value) (k : Nat) (t : Array Value), (∀ i, k ≤ i → v i = v' i) → setS ds v k t = setS ds v' k t
 | [], _, _, _, _, _ => rfl
 | d :: ds, v, v', k, t, h => by
  unfold setS
  rw [h k (Nat.le_refl _), setS_same ds v v' (k + 1) _ (fun i hi => h i (by omega))]
theorem setS_set : ∀ (ds : List Nat) (v : Nat → Value) (k : Nat) (t : Array Value) (j d : Nat) (x : Value), ds.Nodup → ds[j]? = some d → (setS ds v k t).setIfInBounds d x = setS ds (fun i => if i = k + j then x else v i) k t
 | [], _, _, _, _, _, _, _, h => by simp at h
 | d0 :: ds, v, k, t, 0, d, x, hn, h => by
  have e : d0 = d := by simpa using h
  subst e
  unfold setS
  rw [setS_comm ds v (k + 1) _ d0 x (List.nodup_cons.1 hn).1, Array.setIfInBounds_setIfInBounds]
  simp only [Nat.add_zero, if_true]
  exact setS_same _ _ _ _ _ (fun i hi => by rw [if_neg (by omega)])
 | d0 :: ds, v, k, t, j + 1, d, x, hn, h => by
  unfold setS
  rw [setS_set ds v (k + 1) _ j d x (List.nodup_cons.1 hn).2 (by simpa using h)]
  have e : k ≠ k + (j + 1) := by omega
  simp only [e, if_false]
  rw [show k + 1 + j = k + (j + 1) by omega]
theorem eval_out {a : Act} {ds : List Nat} {v : Nat → Value} {s : Nat} (hs : s ∉ ds) : (putS a ds v).eval (.tmp s) = a.eval (.tmp s) := setS_out ds v 0 a.tmps s hs
theorem eval_in {a : Act} {ds : List Nat} {v : Nat → Value} (k : Nat) {d : Nat} (hn : ds.Nodup) (hk : ds[k]? = some d) (hd : d < a.tmps.size) : (putS a ds v).eval (.tmp d) = v k := by
 have := setS_in ds v 0 a.tmps k d hn hk hd
 rw [Nat.zero_add] at this
 exact this
theorem put_in {a : Act} {ds : List Nat} {v : Nat → Value} (k : Nat) {d : Nat} {x : Value} (hn : ds.Nodup) (hk : ds[k]? = some d) : (putS a ds v).put (some d) x = putS a ds (fun j => if j = k then x else v j) := by
 have := setS_set ds v 0 a.tmps k d x hn hk
 rw [Nat.zero_add] at this
 show ({ (putS a ds v) with tmps := (putS a ds v).tmps.setIfInBounds d x } : Act) = _
 unfold putS
 simp only [this]
end Go.Proofs.YtpdahhnjhggocabGreatDoor
