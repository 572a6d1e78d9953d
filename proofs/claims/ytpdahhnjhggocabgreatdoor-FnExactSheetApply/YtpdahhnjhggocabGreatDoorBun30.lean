import Derived.Test.YtpdahhnjhggocabGreatDoorBun26
import Derived.Shelf.Strings.BuilderK
namespace Go.Proofs.YtpdahhnjhggocabGreatDoor
open Go.RowKit
def Closed (md : Region.Mode) (ops : Array Oper) (listed : Array Bool) : Prop := ∀ j oj, ops[j]? = some oj → listed.getD j false = true → ∀ e ∈ oj.after, Region.binds md e = true → listed.getD e.on false = true
theorem Closed.step {md : Region.Mode} {ops : Array Oper} {listed : Array Bool} (h : Closed md ops listed) {i : Nat} (hi : i ∈ Region.ready md ops listed) : Closed md ops (listed.setIfInBounds i true) := by
 intro j oj hoj hl e he hb
 obtain ⟨_, o, ho, hall⟩ := mem_ready.1 hi
 by_cases hji : i = j
 ·subst hji
  rw [ho] at hoj
  cases hoj
  exact getD_set_true (hall e he hb)
 ·rw [getD_set_ne false hji] at hl
  exact getD_set_true (h j oj hoj hl e he hb)
def waitsB (md : Region.Mode) (ops : Array Oper) : Nat → Nat → Nat → Bool
 | 0, _, _ => false
 | f + 1, n, i => match ops[n]? with
  | none => false
  | some o => o.after.toList.any fun e => Region.binds md e && (e.on == i || waitsB md ops f e.on i)
theorem waits_un {md : Region.Mode} {ops : Array Oper} {listed : Array Bool} (h : Closed md ops listed) {i : Nat} (hi : listed.getD i false = false) : ∀ (f n : Nat), waitsB md ops f n i = true → ∃ o, ops[n]? = some o ∧ ∃ e ∈ o.after, Region.binds md e = true ∧ listed.getD e.on false = false
 | 0, _, e => by cases e
 | f + 1, n, e => by
  unfold waitsB at e
  cases ho : ops[n]? with
  | none => rw [ho] at e; cases e
  | some o =>
   rw [ho] at e
   simp only [List.any_eq_true, Bool.and_eq_true, Bool.or_eq_true, beq_iff_eq] at e
   obtain ⟨x, hx, hb, hw⟩ := e
   refine ⟨o, rfl, x, by simpa using hx, hb, ?_⟩
   rcases hw with hw | hw
   ·rw [hw]; exact hi
   ·obtain ⟨o', ho', y, hy, hyb, hyl⟩ := waits_un h hi f x.on hw
    cases hxl : listed.getD x.on false with
    | false => rfl
    | true =>
     have := h x.on o' ho' hxl y hy hyb
     rw [hyl] at this; cases this
theorem un_of_ready {md : Region.Mode} {ops : Array Oper} {listed : Array Bool} {i : Nat} (hi : i ∈ Region.ready md ops listed) : listed.getD i false = false := by
 have h0 := (mem_ready.1 hi).1
 rcases Nat.lt_or_ge i listed.size with h' | h'
 ·simp [h'] at h0 ⊢; exact h0
 ·simp [Array.getElem?_eq_none h'] at h0
theorem not_ready {md : Region.Mode} {ops : Array Oper} {listed : Array Bool} (h : Closed md ops listed) {i n f : Nat} (hi : i ∈ Region.ready md ops listed) (hw : waitsB md ops f n i = true) : n ∉ Region.ready md ops listed := by
 intro hn
 obtain ⟨o, ho, e, he, hb, hl⟩ := waits_un h (un_of_ready hi) f n hw
 obtain ⟨_, o', ho', hall⟩ := mem_ready.1 hn
 rw [ho] at ho'
 cases ho'
 rw [hall e he hb] at hl
 cases hl
theorem bldF_gr {T e : TypeId} {B b : Nat} {bs : List Value} {w u : World} (h : Lib.IsBuilderF T e B b bs w) (hb : Below w.heap.size w u) : Lib.IsBuilderF T e B b bs u := by
 have key : ∀ p, Lib.BuilderAtF T e B b p bs w → Lib.BuilderAtF T e B b p bs u := by
  rintro p ⟨h1, v, h2, h3, h4⟩
  have hlt : ∀ (k : Nat) (o : Obj), w.heap[k]? = some o → u.heap[k]? = some o := by
   intro k o hk
   have hkl : k < w.heap.size := (Array.getElem?_eq_some_iff.1 hk).1
   rw [hb.block k hkl]; exact hk
  refine ⟨h1, v, hlt _ _ h2, ?_, h4⟩
  refine ⟨h3.1, ?_⟩
  rcases h3.2 with h | ⟨g, cap, cur, fz, hv, hg1, hg2, r⟩
  ·exact .inl h
  ·exact .inr ⟨g, cap, cur, fz, hv, hg1, hlt _ _ hg2, r⟩
 rcases h with h | h
 ·exact .inl (key _ h)
 ·exact .inr (key _ h)
end Go.Proofs.YtpdahhnjhggocabGreatDoor
namespace Go.Proofs.YtpdahhnjhggocabGreatDoor
open Go.RowKit
def YieldsUp (P : Program) (ops : Array Oper) (w : World) (o : Oper) (v : Value) (a : Act) : Prop :=
 (Region.wanted o (yielded ops a.tmps) = true ∧ ∀ p : Gr w, o.quietAt P a (fun u => Below p.u.heap.size p.u u) p.u v) ∨ (Region.wanted o (yielded ops a.tmps) = false ∧ v = undef)
theorem YieldsUp.same {P : Program} {ops : Array Oper} {w : World} {o : Oper} {v : Value} {a a' : Act} (hy : YieldsUp P ops w o v a) (he : execOp a'.eval o = execOp a.eval o) (hw : Region.wanted o (yielded ops a'.tmps) = Region.wanted o (yielded ops a.tmps)) : YieldsUp P ops w o v a' := by
 unfold YieldsUp Oper.quietAt at *
 rw [he, hw]
 exact hy
theorem YieldsUp.up {P : Program} {ops : Array Oper} {w w' : World} {o : Oper} {v : Value} {a : Act} (hy : YieldsUp P ops w o v a) (hb : Below w.heap.size w w') : YieldsUp P ops w' o v a :=
 hy.imp (fun ⟨h1, h2⟩ => ⟨h1, fun p => h2 ⟨p.u, hb.trans (p.h.mono hb.size)⟩⟩) id
theorem YieldsUp.wpOp {P : Program} {ops : Array Oper} {w : World} {o : Oper} {v : Value} {a : Act} {i : Nat} {Q : Exit → Act → World → Prop} (hi : ops[i]? = some o) (hy : YieldsUp P ops w o v a) {K : Act → World → Prop} (p : Gr w) (h : ∀ u, Below p.u.heap.size p.u u → K (a.put o.dst v) u) : wpOp P ops Q i K a p.u := by
 unfold Go.wpOp
 simp only [hi]
 rcases hy with ⟨hw, hv⟩ | ⟨hw, rfl⟩
 ·simp only [hw, if_true]
  refine .inl ?_
  have h3 := hv p
  unfold Oper.quietAt at h3
  unfold Oper.wp
  generalize (execOp a.eval o).run P p.u = r at *
  cases r with
  | ok n w' =>
   cases n <;> simp only [Oper.quietUpon] at h3 <;> simp only [Oper.upon]
   case value x => obtain ⟨rfl, rfl⟩ := h3; exact h _ (Below.refl _ _)
   case skip => obtain ⟨rfl, rfl⟩ := h3; exact h _ (Below.refl _ _)
   case enter f args =>
    obtain ⟨rfl, hc⟩ := h3
    exact hc.mono fun e w'' ⟨he, hb⟩ => by subst he; exact h _ hb
  | halt x w' => simp only [Oper.quietUpon] at h3
 ·simp only [hw, Bool.false_eq_true, if_false]; exact h _ (Below.refl _ _)
def wpUp (P : Program) (md : Region.Mode) (ops : Array Oper) (Q : Exit → Act → World → Prop) (n : Nat) : Nat → Array Bool → Act → World → Prop
 | 0, listed, a, w => Region.ready md ops listed = [] ∧ ∀ p : Gr w, Q .normal a p.u
 | f + 1, listed, a, w => ∀ p : Gr w, (Region.ready md ops listed = [] → Q .normal a p.u) ∧ ∀ i ∈ Region.ready md ops listed, wpOp P ops Q i (fun a' u => (i = n ∧ Region.ready md ops (listed.setIfInBounds n true) = [] ∧ Q .normal a' u) ∨ (i ≠ n ∧ Below p.u.heap.size p.u u ∧ wpUp P md ops Q n f (listed.setIfInBounds i true) a' u)) a p.u
def lexU (md : Region.Mode) (ops : Array Oper) (n : Nat) : List Nat → Array Bool → Bool
 | [], _ => true
 | k :: ks, listed => (Region.ready md ops listed).contains k && Region.free md ops listed k && (waitsB md ops 40 n k || ops.size ≤ n) && lexU md ops n ks (listed.setIfInBounds k true)
def setU : List Nat → Array Bool → Array Bool
 | [], listed => listed
 | k :: ks, listed => setU ks (listed.setIfInBounds k true)
def AllUp (P : Program) (md : Region.Mode) (ops : Array Oper) (Q : Exit → Act → World → Prop) (n f : Nat) (listed : Array Bool) (a : Act) (u : World) (rs : List Nat) : Prop := ∀ i ∈ rs, wpOp P ops Q i (fun a' u' => (i = n ∧ Region.ready md ops (listed.setIfInBounds n true) = [] ∧ Q .normal a' u') ∨ (i ≠ n ∧ Below u.heap.size u u' ∧ wpUp P md ops Q n f (listed.setIfInBounds i true) a' u')) a u
theorem AllUp.nil {P : Program} {md : Region.Mode} {ops : Array Oper} {Q : Exit → Act → World → Prop} {n f : Nat} {listed : Array Bool} {a : Act} {u : World} : AllUp P md ops Q n f listed a u [] := fun _ h => by cases h
theorem AllUp.cons {P : Program} {md : Region.Mode} {ops : Array Oper} {Q : Exit → Act → World → Prop} {n f : Nat} {listed : Array Bool} {a : Act} {u : World} {i : Nat} {o : Oper} {rs : List Nat} (ho : ops[i]? = some o) (hn : i ≠ n)
  (h : ∀ K : Act → World → Prop, Shut (∀ a' u', Below u.heap.size u u' → wpUp P md ops Q n f (listed.setIfInBounds i true) a' u' → K a' u') → if Region.wanted o (yielded ops a.tmps) = true then Oper.wp P o a u K Q else K (a.put o.dst undef) u)
  (hs : AllUp P md ops Q n f listed a u rs) : AllUp P md ops Q n f listed a u (i :: rs) := fun j hj => by
 rcases List.mem_cons.1 hj with rfl | hj
 ·exact wpOp_step ho (fun K hK => h K (fun a' u' hb hw => hK a' u' (.inr ⟨hn, hb, hw⟩)))
 ·exact hs j hj
def closedB (md : Region.Mode) (ops : Array Oper) (listed : Array Bool) : Bool := (List.range ops.size).all fun j => match ops[j]? with
 | none => true
 | some oj => !(listed.getD j false) || oj.after.toList.all (fun e => !(Region.binds md e) || listed.getD e.on false)
theorem closed_of {md : Region.Mode} {ops : Array Oper} {listed : Array Bool} (h : closedB md ops listed = true) : Closed md ops listed := by
 intro j oj hoj hl e he hb
 have hj : j < ops.size := (Array.getElem?_eq_some_iff.1 hoj).1
 have := List.all_eq_true.1 h j (List.mem_range.2 hj)
 rw [hoj] at this
 simp only [hl, Bool.not_true, Bool.false_or] at this
 have := List.all_eq_true.1 this e (by simpa using he)
 simpa [hb] using this
def maskL {α : Type} : List Bool → List α → List α
 | true :: m, o :: l => o :: maskL m l
 | false :: m, _ :: l => maskL m l
 | _, _ => []
theorem maskL_t {α : Type} (m : List Bool) (o : α) (l : List α) : maskL (true :: m) (o :: l) = o :: maskL m l := rfl
theorem maskL_f {α : Type} (m : List Bool) (o : α) (l : List α) : maskL (false :: m) (o :: l) = maskL m l := rfl
theorem maskL_n {α : Type} (l : List α) : maskL [] l = [] := by cases l <;> rfl
def idxL : List Bool → Nat → List Nat
 | [], _ => []
 | true :: m, k => k :: idxL m (k + 1)
 | false :: m, k => idxL m (k + 1)
theorem mask_idx {α : Type} (A : List α) : ∀ (m : List Bool) (l C : List α), A = C ++ l → m.length = l.length → (idxL m C.length).map (fun k => A[k]?) = (maskL m l).map some
 | [], l, C, _, hl => by
  rw [maskL_n]; rfl
 | b :: m, [], C, _, hl => by simp at hl
 | b :: m, o :: l, C, hA, hl => by
  have ih := mask_idx A m l (C ++ [o]) (by rw [hA]; simp) (by simpa using hl)
  rw [List.length_append, List.length_singleton] at ih
  cases b with
  | false => exact ih
  | true =>
   show A[C.length]? :: _ = some o :: _
   rw [ih, hA]
   simp
end Go.Proofs.YtpdahhnjhggocabGreatDoor
namespace Go.Proofs.YtpdahhnjhggocabGreatDoor
open Go.RowKit
def wpHold (P : Program) (md : Region.Mode) (ops : Array Oper) (Q : Exit → Act → World → Prop) (S : World → Prop) (n : Nat) : Nat → Array Bool → Act → World → Prop
 | 0, listed, a, w => Region.ready md ops listed = [] ∧ Q .normal a w
 | f + 1, listed, a, w => (Region.ready md ops listed = [] → Q .normal a w) ∧ ∀ i ∈ Region.ready md ops listed, wpOp P ops Q i (fun a' u => (i = n ∧ Region.ready md ops (listed.setIfInBounds n true) = [] ∧ Q .normal a' u) ∨ (i ≠ n ∧ S u ∧ wpHold P md ops Q S n f (listed.setIfInBounds i true) a' u)) a w
theorem wpAny_of_hold {P : Program} {md : Region.Mode} {ops : Array Oper} {Q : Exit → Act → World → Prop} {S : World → Prop} {n : Nat} : ∀ (f : Nat) (listed : Array Bool) (a : Act) (w : World), wpHold P md ops Q S n f listed a w → wpAny P md ops Q f listed a w
 | 0, _, _, _, h => h
 | f + 1, listed, a, w, h => by
  refine ⟨h.1, fun i hi => wpOp_mono (fun a' u hu => ?_) (h.2 i hi)⟩
  rcases hu with ⟨rfl, hr, hq⟩ | ⟨_, _, hu⟩
  ·cases f with
   | zero => exact ⟨hr, hq⟩
   | succ f => exact ⟨fun _ => hq, fun j hj => by rw [hr] at hj; cases hj⟩
  ·exact wpAny_of_hold f _ a' u hu
theorem wpHold_first {P : Program} {md : Region.Mode} {ops : Array Oper} {Q : Exit → Act → World → Prop} {S : World → Prop} {n fw : Nat} {i : Nat} {oi : Oper} {v : Value} (hi : ops[i]? = some oi) (hsel : ∀ (j : Nat) (o : Oper) cs b, ops[j]? = some o → o.op ≠ .select cs b) (hwait : waitsB md ops fw n i = true ∨ ops.size ≤ n)
  (hQ : ∀ c a w, Q (.panic c) (a.put oi.dst v) w → Q (.panic c) a w) :
  ∀ (fuel : Nat) (listed : Array Bool) (a : Act) (w : World), Closed md ops listed →
   (∀ j oj, ops[j]? = some oj → j ≠ i → listed.getD j true = false → (∀ e ∈ oj.after, Region.binds md e = true → e.on ≠ i) → oi.apart ops oj = true) →
   i ∈ Region.ready md ops listed → YieldsIf P ops S oi v a → S w →
   wpHold P md ops Q S n fuel (listed.setIfInBounds i true) (a.put oi.dst v) w → wpHold P md ops Q S n (fuel + 1) listed a w := by
 have hin : ∀ listed : Array Bool, Closed md ops listed → i ∈ Region.ready md ops listed → n ∉ Region.ready md ops listed := by
  intro listed hcl hr hn
  rcases hwait with hw | hw
  ·exact not_ready hcl hr hw hn
  ·obtain ⟨_, o, ho, _⟩ := mem_ready.1 hn
   rw [Array.getElem?_eq_none hw] at ho
   cases ho
 intro fuel
 induction fuel with
 | zero =>
  intro listed a w hcl _ hr hy hS H
  refine ⟨fun h => (by rw [h] at hr; cases hr), fun j hj => ?_⟩
  by_cases hji : j = i
  ·subst hji
   exact hy.wpOp hi hS (.inr ⟨fun e => hin listed hcl hr (e ▸ hr), hS, H⟩)
  ·have := ready_mono hj hji
   rw [H.1] at this
   cases this
 | succ fuel ih =>
  intro listed a w hcl hfree hr hy hS H
  refine ⟨fun h => (by rw [h] at hr; cases hr), fun j hj => ?_⟩
  by_cases hji : j = i
  ·subst hji
   exact hy.wpOp hi hS (.inr ⟨fun e => hin listed hcl hr (e ▸ hr), hS, H⟩)
  ·have h1 := H.2 j (ready_mono hj hji)
   obtain ⟨hjun, oj, hoj, hall⟩ := mem_ready.1 hj
   have hjn : j ≠ n := fun e => hin listed hcl hr (e ▸ hj)
   have hnot : ∀ e ∈ oj.after, Region.binds md e = true → e.on ≠ i := fun e he hb heq => by
    have h1 := hall e he hb
    rw [heq, un_of_ready hr] at h1
    cases h1
   have hap := hfree j oj hoj hji hjun hnot
   have h2 := wpOp_putIf hoj hap (fun cs b => hsel i oi cs b hi) (fun cs b => hsel j oj cs b hoj) hQ hy h1
   have hfree' : ∀ k ok, ops[k]? = some ok → k ≠ i → (listed.setIfInBounds j true).getD k true = false →
     (∀ e ∈ ok.after, Region.binds md e = true → e.on ≠ i) → oi.apart ops ok = true := fun k ok hk hki hun hno => by
    refine hfree k ok hk hki ?_ hno
    by_cases hjk : j = k
    ·subst hjk; exact hjun
    ·rw [getD_set_ne true hjk] at hun; exact hun
   refine wpOp_mono (fun a' u h3 => ?_) h2
   obtain ⟨h3, h4⟩ := h3
   rcases h4 with ⟨e, _⟩ | ⟨_, hb, h5⟩
   ·exact absurd e hjn
   ·refine .inr ⟨hjn, hb, ih (listed.setIfInBounds j true) _ u (hcl.step hj) hfree' (ready_mono hr (Ne.symm hji)) h3 hb ?_⟩
    rw [Array.setIfInBounds_comm _ _ hji]
    exact h5
def wpReads (P : Program) (ops : Array Oper) (S : World → Prop) (Q : Act → Prop) : List Oper → Act → Prop
 | [], a => Q a
 | o :: rest, a => if Region.wanted o (yielded ops a.tmps) then ∃ v, (∀ p : { w : World // S w }, (execOp a.eval o).run P p.1 = .ok (.value v) p.1) ∧ wpReads P ops S Q rest (a.put o.dst v) else wpReads P ops S Q rest (a.put o.dst undef)
theorem wpReads_step {P : Program} {ops : Array Oper} {S : World → Prop} {Q : Act → Prop} {a : Act} {o : Oper} {rest : List Oper} (h : ∀ K : Act → Prop, (∀ a, wpReads P ops S Q rest a → K a) → if Region.wanted o (yielded ops a.tmps) then ∃ v, (∀ p : { w : World // S w }, (execOp a.eval o).run P p.1 = .ok (.value v) p.1) ∧ K (a.put o.dst v) else K (a.put o.dst undef)) : wpReads P ops S Q (o :: rest) a := h _ (fun _ h => h)
theorem wpReads_nil {P : Program} {ops : Array Oper} {S : World → Prop} {Q : Act → Prop} {a : Act} (h : Q a) : wpReads P ops S Q [] a := h
theorem wpHold_reads {P : Program} {md : Region.Mode} {ops : Array Oper} {Q : Exit → Act → World → Prop} {S : World → Prop} {n : Nat} {w : World} (hs : Region.noSelect ops = true) (hQ : ∀ (d : Option Tmp) v c a w, Q (.panic c) (a.put d v) w → Q (.panic c) a w) (hS : S w) (ks : List Nat) : ∀ (l : List Oper) (f : Nat) (listed : Array Bool) (a : Act), ks.map (fun k => ops[k]?) = l.map some → Closed md ops listed → lexU md ops n ks listed = true → wpReads P ops S (fun a' => wpHold P md ops Q S n f (setU ks listed) a' w) l a → wpHold P md ops Q S n (f + ks.length) listed a w := by
 induction ks with
 | nil =>
  intro l f listed a hl _ _ h
  cases l with
  | nil => exact h
  | cons o l => simp at hl
 | cons k ks ih =>
  intro l f listed a hl hc hB h
  cases l with
  | nil => simp at hl
  | cons o l =>
   simp only [List.map_cons, List.cons.injEq] at hl
   simp only [lexU, Bool.and_eq_true] at hB
   obtain ⟨⟨⟨hr, hf⟩, hw⟩, hB'⟩ := hB
   have hr' : k ∈ Region.ready md ops listed := by simpa using hr
   have hw' : waitsB md ops 40 n k = true ∨ ops.size ≤ n := by simpa using hw
   obtain ⟨v, hy, hK⟩ : ∃ v, YieldsIf P ops S o v a ∧ wpReads P ops S (fun a' => wpHold P md ops Q S n f (setU ks (listed.setIfInBounds k true)) a' w) l (a.put o.dst v) := by
    unfold wpReads at h
    by_cases hwant : Region.wanted o (yielded ops a.tmps) = true
    ·rw [if_pos hwant] at h
     obtain ⟨v, hv, hK⟩ := h
     exact ⟨v, .inl ⟨hwant, fun w hw => hv ⟨w, hw⟩⟩, hK⟩
    ·rw [if_neg hwant] at h
     exact ⟨undef, .inr ⟨by simpa using hwant, rfl⟩, h⟩
   have h1 := ih l f (listed.setIfInBounds k true) (a.put o.dst v) hl.2 (hc.step hr') hB' hK
   rw [List.length_cons, ← Nat.add_assoc]
   exact wpHold_first hl.1 (Region.noSelect_spec hs) hw' (fun c a w => hQ o.dst v c a w) (f + ks.length) listed a w hc (Region.free_spec hl.1 hf) hr' hy hS h1
theorem wpHold_mask {P : Program} {md : Region.Mode} {Q : Exit → Act → World → Prop} {S : World → Prop} {n F : Nat} {w : World} {l : List Oper} {listed : Array Bool} {a : Act} (m : List Bool) (f : Nat) (hF : F = f + (idxL m 0).length) (hB : (m.length == l.length && Region.noSelect l.toArray && closedB md l.toArray listed && lexU md l.toArray n (idxL m 0) listed) = true) (hS : S w)
  (h : wpReads P l.toArray S (fun a' => wpHold P md l.toArray (NoPanic Q) S n f (setU (idxL m 0) listed) a' w) (maskL m l) a) : wpHold P md l.toArray (NoPanic Q) S n F listed a w := by
 simp only [Bool.and_eq_true, beq_iff_eq] at hB
 obtain ⟨⟨⟨h1, h2⟩, h3⟩, h4⟩ := hB
 subst hF
 refine wpHold_reads h2 (fun _ _ _ _ _ h => h) hS (idxL m 0) (maskL m l) f listed a ?_ (closed_of h3) h4 h
 have := mask_idx l m l [] rfl h1
 simpa using this
theorem wp_region_hold {P : Program} {id : Nat} {Q : Exit → Act → World → Prop} {S : World → Prop} {a : Act} {w : World} {l : List Oper} (n F : Nat) (hm : P.follows .mixedOrders = true) (hF : l.length = F) (h : wpHold P .any l.toArray (NoPanic Q) S n F (Array.replicate F false) a w.drew) : (Code.region id l.toArray true).wp P Q a w := by
 subst hF
 exact wp_region_noPanic (wp_region_any hm (wpAny_of_hold _ _ _ _ h))
def AllHold (P : Program) (md : Region.Mode) (ops : Array Oper) (Q : Exit → Act → World → Prop) (S : World → Prop) (n f : Nat) (listed : Array Bool) (a : Act) (u : World) (rs : List Nat) : Prop := ∀ i ∈ rs, wpOp P ops Q i (fun a' u' => (i = n ∧ Region.ready md ops (listed.setIfInBounds n true) = [] ∧ Q .normal a' u') ∨ (i ≠ n ∧ S u' ∧ wpHold P md ops Q S n f (listed.setIfInBounds i true) a' u')) a u
theorem AllHold.nil {P : Program} {md : Region.Mode} {ops : Array Oper} {Q : Exit → Act → World → Prop} {S : World → Prop} {n f : Nat} {listed : Array Bool} {a : Act} {u : World} : AllHold P md ops Q S n f listed a u [] := fun _ h => by cases h
theorem AllHold.cons {P : Program} {md : Region.Mode} {ops : Array Oper} {Q : Exit → Act → World → Prop} {S : World → Prop} {n f : Nat} {listed : Array Bool} {a : Act} {u : World} {i : Nat} {o : Oper} {rs : List Nat} (ho : ops[i]? = some o) (hn : i ≠ n)
  (h : ∀ K : Act → World → Prop, Shut (∀ a' u', S u' → wpHold P md ops Q S n f (listed.setIfInBounds i true) a' u' → K a' u') → if Region.wanted o (yielded ops a.tmps) = true then Oper.wp P o a u K Q else K (a.put o.dst undef) u)
  (hs : AllHold P md ops Q S n f listed a u rs) : AllHold P md ops Q S n f listed a u (i :: rs) := fun j hj => by
 rcases List.mem_cons.1 hj with rfl | hj
 ·exact wpOp_step ho (fun K hK => h K (fun a' u' hb hw => hK a' u' (.inr ⟨hn, hb, hw⟩)))
 ·exact hs j hj
theorem wpHold_branch {P : Program} {md : Region.Mode} {ops : Array Oper} {Q : Exit → Act → World → Prop} {S : World → Prop} {n f : Nat} {listed : Array Bool} {a : Act} {w : World} {rs : List Nat} (hr : Region.ready md ops listed = rs) (hne : rs ≠ []) (h : AllHold P md ops Q S n f listed a w rs) : wpHold P md ops Q S n (f + 1) listed a w := ⟨fun h0 => absurd (hr ▸ h0) hne, hr ▸ h⟩
theorem wpHold_last {P : Program} {md : Region.Mode} {ops : Array Oper} {Q : Exit → Act → World → Prop} {S : World → Prop} {n f : Nat} {listed : Array Bool} {a : Act} {w : World} {o : Oper} (hr : Region.ready md ops listed = [n]) (ho : ops[n]? = some o) (he : Region.ready md ops (listed.setIfInBounds n true) = [])
  (h : ∀ K : Act → World → Prop, Shut (∀ a' u', Q .normal a' u' → K a' u') → if Region.wanted o (yielded ops a.tmps) = true then Oper.wp P o a w K Q else K (a.put o.dst undef) w) : wpHold P md ops Q S n (f + 1) listed a w :=
 ⟨fun h0 => (by rw [hr] at h0; cases h0), fun i hi => by
   rw [hr, List.mem_singleton] at hi
   subst hi
   exact wpOp_step ho (fun K hK => h K (fun a' u' hq => hK a' u' (.inl ⟨rfl, he, hq⟩)))⟩
end Go.Proofs.YtpdahhnjhggocabGreatDoor
namespace Go.Proofs.YtpdahhnjhggocabGreatDoor
open Go.RowKit
def upd (L : Nat → Bool) (i : Nat) : Nat → Bool := fun j => if j = i then true else L j
def predsB (md : Region.Mode) (ops : Array Oper) (i : Nat) : List Nat := match ops[i]? with
 | none => []
 | some o => (o.after.toList.filter (fun e => Region.binds md e)).map (fun e => e.on)
def AllInv (P : Program) (md : Region.Mode) (ops : Array Oper) (Q : Exit → Act → World → Prop) (Inv : (Nat → Bool) → Act → World → Prop) (n : Nat) (is : List Nat) : Prop := ∀ i ∈ is, ∀ (L : Nat → Bool) (a : Act) (w : World), L i = false → (∀ j ∈ predsB md ops i, L j = true) → Inv L a w → wpOp P ops Q i (fun a' u => if i = n then Q .normal a' u else Inv (upd L i) a' u) a w
theorem AllInv.nil {P : Program} {md : Region.Mode} {ops : Array Oper} {Q : Exit → Act → World → Prop} {Inv : (Nat → Bool) → Act → World → Prop} {n : Nat} : AllInv P md ops Q Inv n [] := fun _ h => by cases h
theorem AllInv.cons {P : Program} {md : Region.Mode} {ops : Array Oper} {Q : Exit → Act → World → Prop} {Inv : (Nat → Bool) → Act → World → Prop} {n i : Nat} {o : Oper} {is : List Nat} (js : List Nat) (ho : ops[i]? = some o) (hn : i ≠ n) (hp : predsB md ops i = js)
  (h : ∀ (L : Nat → Bool) (a : Act) (w : World), L i = false → (∀ j ∈ js, L j = true) → Inv L a w → ∀ K : Act → World → Prop, Shut (∀ a' u', Inv (upd L i) a' u' → K a' u') → if Region.wanted o (yielded ops a.tmps) = true then Oper.wp P o a w K Q else K (a.put o.dst undef) w)
  (hs : AllInv P md ops Q Inv n is) : AllInv P md ops Q Inv n (i :: is) := fun j hj => by
 rcases List.mem_cons.1 hj with rfl | hj
 ·intro L a w h0 h1 h2
  exact wpOp_step ho (fun K hK => h L a w h0 (hp ▸ h1) h2 K (fun a' u' hi => hK a' u' (by rw [if_neg hn]; exact hi)))
 ·exact hs j hj
theorem AllInv.last {P : Program} {md : Region.Mode} {ops : Array Oper} {Q : Exit → Act → World → Prop} {Inv : (Nat → Bool) → Act → World → Prop} {n : Nat} {o : Oper} (js : List Nat) (ho : ops[n]? = some o) (hp : predsB md ops n = js)
  (h : ∀ (L : Nat → Bool) (a : Act) (w : World), L n = false → (∀ j ∈ js, L j = true) → Inv L a w → ∀ K : Act → World → Prop, Shut (∀ a' u', Q .normal a' u' → K a' u') → if Region.wanted o (yielded ops a.tmps) = true then Oper.wp P o a w K Q else K (a.put o.dst undef) w) : AllInv P md ops Q Inv n [n] := fun j hj => by
 rw [List.mem_singleton] at hj
 subst hj
 intro L a w h0 h1 h2
 exact wpOp_step ho (fun K hK => h L a w h0 (hp ▸ h1) h2 K (fun a' u' hq => hK a' u' (by rw [if_pos rfl]; exact hq)))
def InvG (A : (Nat → Value) → Act) (F : Nat → Value → World → Prop) (G : (Nat → Bool) → World → Prop) (L : Nat → Bool) (a : Act) (W : World) : Prop := ∃ v : Nat → Value, a = A v ∧ (∀ i, L i = true → F i (v i) W) ∧ G L W
theorem InvG.next {A : (Nat → Value) → Act} {F : Nat → Value → World → Prop} {G : (Nat → Bool) → World → Prop} {L : Nat → Bool} {v : Nat → Value} {W W' : World} {a' : Act} (h : ∀ i, L i = true → F i (v i) W) (i : Nat) (x : Value) (ha : a' = A (fun j => if j = i then x else v j)) (hkeep : ∀ j y, F j y W → F j y W') (hi : F i x W') (hG : G (upd L i) W') : InvG A F G (upd L i) a' W' := by
 refine ⟨_, ha, fun j hj => ?_, hG⟩
 by_cases e : j = i
 ·subst e; simpa using hi
 ·simp only [e, if_false]
  refine hkeep j _ (h j ?_)
  simpa [upd, e] using hj
def setS : List Nat → (Nat → Value) → Nat → Array Value → Array Value
 | [], _, _, t => t
 | d :: ds, v, k, t => setS ds v (k + 1) (t.setIfInBounds d (v k))
def putS (a : Act) (ds : List Nat) (v : Nat → Value) : Act := { a with tmps := setS ds v 0 a.tmps }
end Go.Proofs.YtpdahhnjhggocabGreatDoor
namespace Go.Proofs.YtpdahhnjhggocabGreatDoor
open Go.RowKit
structure Lid (p : Prop) : Prop where
 out : p
theorem InvG.nextL {A : (Nat → Value) → Act} {F : Nat → Value → World → Prop} {G : (Nat → Bool) → World → Prop} {L : Nat → Bool} {v : Nat → Value} {W W' : World} {a' : Act} (h : ∀ i, L i = true → F i (v i) W) (i : Nat) (x : Value) (ha : a' = A (fun j => if j = i then x else v j)) (hkeep : ∀ j y, L j = true → F j y W → F j y W') (hi : F i x W') (hG : G (upd L i) W') : InvG A F G (upd L i) a' W' := by
 refine ⟨_, ha, fun j hj => ?_, hG⟩
 by_cases e : j = i
 ·subst e; simpa using hi
 ·simp only [e, if_false]
  have hl : L j = true := by simpa [upd, e] using hj
  exact hkeep j _ hl (h j hl)
end Go.Proofs.YtpdahhnjhggocabGreatDoor
namespace Go.Proofs.YtpdahhnjhggocabGreatDoor
open Go.RowKit
end Go.Proofs.YtpdahhnjhggocabGreatDoor
namespace Go.Proofs.YtpdahhnjhggocabGreatDoor
open Go.RowKit
def PanicQ (R : List PanicEntry → World → Prop) (Q : Exit → Act → World → Prop) : Exit → Act → World → Prop
 | .panic c, a, w => a.defers = [] ∧ R c w
 | e, a, w => Q e a w
theorem PanicQ.normal {R : List PanicEntry → World → Prop} {Q : Exit → Act → World → Prop} {a : Act} {w : World} (h : Q .normal a w) : PanicQ R Q .normal a w := h
theorem PanicQ.panic {R : List PanicEntry → World → Prop} {Q : Exit → Act → World → Prop} {c : List PanicEntry} {a : Act} {w : World} (hd : a.defers = []) (h : R c w) : PanicQ R Q (.panic c) a w := ⟨hd, h⟩
theorem wpHoldR_mask {P : Program} {md : Region.Mode} {R : List PanicEntry → World → Prop} {Q : Exit → Act → World → Prop} {S : World → Prop} {n F : Nat} {w : World} {l : List Oper} {listed : Array Bool} {a : Act} (m : List Bool) (f : Nat) (hF : F = f + (idxL m 0).length) (hB : (m.length == l.length && Region.noSelect l.toArray && closedB md l.toArray listed && lexU md l.toArray n (idxL m 0) listed) = true) (hS : S w)
  (h : wpReads P l.toArray S (fun a' => wpHold P md l.toArray (PanicQ R Q) S n f (setU (idxL m 0) listed) a' w) (maskL m l) a) : wpHold P md l.toArray (PanicQ R Q) S n F listed a w := by
 simp only [Bool.and_eq_true, beq_iff_eq] at hB
 obtain ⟨⟨⟨h1, h2⟩, h3⟩, h4⟩ := hB
 subst hF
 refine wpHold_reads h2 (fun d _ _ _ _ h => by cases d <;> exact h) hS (idxL m 0) (maskL m l) f listed a ?_ (closed_of h3) h4 h
 have := mask_idx l m l [] rfl h1
 simpa using this
theorem wp_region_holdR {P : Program} {id : Nat} {R : List PanicEntry → World → Prop} {Q : Exit → Act → World → Prop} {S : World → Prop} {a : Act} {w : World} {l : List Oper} (n F : Nat) (hm : P.follows .mixedOrders = true) (hF : l.length = F) (hR : ∀ c a w, a.defers = [] → R c w → Q (.panic c) a w) (h : wpHold P .any l.toArray (PanicQ R Q) S n F (Array.replicate F false) a w.drew) : (Code.region id l.toArray true).wp P Q a w := by
 subst hF
 refine Code.wp_mono (fun e a w h => ?_) (wp_region_any hm (wpAny_of_hold _ _ _ _ h))
 cases e <;> first | exact h | exact hR _ _ _ h.1 h.2
structure ReadsBox (P : Program) (ops : Array Oper) (S : World → Prop) (Q : Act → Prop) (l : List Oper) (a : Act) : Prop where
 out : wpReads P ops S Q l a
theorem ReadsBox.skip {P : Program} {ops : Array Oper} {S : World → Prop} {Q : Act → Prop} {a : Act} {o : Oper} {rest : List Oper} (hw : Region.wanted o (yielded ops a.tmps) = false) (h : ReadsBox P ops S Q rest (a.put o.dst undef)) : ReadsBox P ops S Q (o :: rest) a :=
 ⟨wpReads_step (fun K hK => by rw [if_neg (by rw [hw]; simp)]; exact hK _ h.out)⟩
theorem ReadsBox.step {P : Program} {ops : Array Oper} {S : World → Prop} {Q : Act → Prop} {a : Act} {o : Oper} {rest : List Oper} (h : ∀ K : Act → Prop, (∀ a, ReadsBox P ops S Q rest a → K a) → if Region.wanted o (yielded ops a.tmps) then ∃ v, (∀ p : { w : World // S w }, (execOp a.eval o).run P p.1 = .ok (.value v) p.1) ∧ K (a.put o.dst v) else K (a.put o.dst undef)) : ReadsBox P ops S Q (o :: rest) a :=
 ⟨wpReads_step (fun K hK => h K (fun a ha => hK a ha.out))⟩
theorem ReadsBox.nil {P : Program} {ops : Array Oper} {S : World → Prop} {Q : Act → Prop} {a : Act} (h : Q a) : ReadsBox P ops S Q [] a := ⟨wpReads_nil h⟩
theorem wpHoldR_box {P : Program} {md : Region.Mode} {R : List PanicEntry → World → Prop} {Q : Exit → Act → World → Prop} {S : World → Prop} {n F : Nat} {w : World} {l : List Oper} {listed : Array Bool} {a : Act} (m : List Bool) (f : Nat) (hF : F = f + (idxL m 0).length) (hB : (m.length == l.length && Region.noSelect l.toArray && closedB md l.toArray listed && lexU md l.toArray n (idxL m 0) listed) = true) (hS : S w)
  (h : ReadsBox P l.toArray S (fun a' => wpHold P md l.toArray (PanicQ R Q) S n f (setU (idxL m 0) listed) a' w) (maskL m l) a) : wpHold P md l.toArray (PanicQ R Q) S n F listed a w :=
 wpHoldR_mask m f hF hB hS h.out
end Go.Proofs.YtpdahhnjhggocabGreatDoor
