import Derived.Test.YtnnpgnkmmahomabGreatDoorBun21
import Derived.Shelf.Strings.BuilderK
namespace Go.Proofs.YtnnpgnkmmahomabGreatDoor
open Go.RowKit
/-- A region that draws, whose last operation waits for all the others: those are walked once, the last one at every world of the class. -/
def Closed (md : Region.Mode) (ops : Array Oper) (listed : Array Bool) : Prop := ∀ j oj, ops[j]? = some oj → listed.getD j false = true → ∀ e ∈ oj.after, Region.binds md e = true → listed.getD e.on false = true
theorem Closed.start (md : Region.Mode) (ops : Array Oper) (n : Nat) : Closed md ops (Array.replicate n false) := by
  intro j oj _ hl
  exfalso
  by_cases h : j < n
  · simp [h] at hl
  · simp [h] at hl
theorem Closed.step {md : Region.Mode} {ops : Array Oper} {listed : Array Bool} (h : Closed md ops listed) {i : Nat} (hi : i ∈ Region.ready md ops listed) : Closed md ops (listed.setIfInBounds i true) := by
  intro j oj hoj hl e he hb
  obtain ⟨_, o, ho, hall⟩ := mem_ready.1 hi
  by_cases hji : i = j
  · subst hji
    rw [ho] at hoj
    cases hoj
    exact getD_set_true (hall e he hb)
  · rw [getD_set_ne false hji] at hl
    exact getD_set_true (h j oj hoj hl e he hb)
def waitsB (md : Region.Mode) (ops : Array Oper) : Nat → Nat → Nat → Bool
  | 0, _, _ => false
  | f + 1, n, i => match ops[n]? with
    | none => false
    | some o => o.after.toList.any fun e => Region.binds md e && (e.on == i || waitsB md ops f e.on i)
theorem waits_un {md : Region.Mode} {ops : Array Oper} {listed : Array Bool} (h : Closed md ops listed) {i : Nat} (hi : listed.getD i false = false) : ∀ (f n : Nat), waitsB md ops f n i = true → ∃ o, ops[n]? = some o ∧ ∃ e ∈ o.after, Region.binds md e = true ∧ listed.getD e.on false = false
  | 0, _, e => by cases e
  | f + 1, n, e => by
    unfold waitsB at e
    cases ho : ops[n]? with
    | none => rw [ho] at e; cases e
    | some o =>
      rw [ho] at e
      simp only [List.any_eq_true, Bool.and_eq_true, Bool.or_eq_true, beq_iff_eq] at e
      obtain ⟨x, hx, hb, hw⟩ := e
      refine ⟨o, rfl, x, by simpa using hx, hb, ?_⟩
      rcases hw with hw | hw
      · rw [hw]; exact hi
      · obtain ⟨o', ho', y, hy, hyb, hyl⟩ := waits_un h hi f x.on hw
        cases hxl : listed.getD x.on false with
        | false => rfl
        | true =>
          have := h x.on o' ho' hxl y hy hyb
          rw [hyl] at this; cases this
theorem un_of_ready {md : Region.Mode} {ops : Array Oper} {listed : Array Bool} {i : Nat} (hi : i ∈ Region.ready md ops listed) : listed.getD i false = false := by
  have h0 := (mem_ready.1 hi).1
  rcases Nat.lt_or_ge i listed.size with h' | h'
  · simp [h'] at h0 ⊢; exact h0
  · simp [Array.getElem?_eq_none h'] at h0
theorem not_ready {md : Region.Mode} {ops : Array Oper} {listed : Array Bool} (h : Closed md ops listed) {i n f : Nat} (hi : i ∈ Region.ready md ops listed) (hw : waitsB md ops f n i = true) : n ∉ Region.ready md ops listed := by
  intro hn
  obtain ⟨o, ho, e, he, hb, hl⟩ := waits_un h (un_of_ready hi) f n hw
  obtain ⟨_, o', ho', hall⟩ := mem_ready.1 hn
  rw [ho] at ho'
  cases ho'
  rw [hall e he hb] at hl
  cases hl
def wpAnyL (P : Program) (md : Region.Mode) (ops : Array Oper) (C : World → Prop) (n : Nat) (Q : Act → Prop) : Nat → Array Bool → Act → Prop
  | 0, _, _ => False
  | f + 1, listed, a => (Region.ready md ops listed = [n] ∧ Region.ready md ops (listed.setIfInBounds n true) = [] ∧ Q a) ∨ (n ∉ Region.ready md ops listed ∧ Region.ready md ops listed ≠ [] ∧ ∀ i ∈ Region.ready md ops listed, qOp P ops C i (wpAnyL P md ops C n Q f (listed.setIfInBounds i true)) a)
theorem wpAny_of_L {P : Program} {md : Region.Mode} {ops : Array Oper} {C : World → Prop} {n : Nat} {Q : Act → Prop} {Q' : Exit → Act → World → Prop} (hQ : ∀ a w, C w → Q a → wpOp P ops Q' n (fun a w => Q' .normal a w) a w) : ∀ (f : Nat) (listed : Array Bool) (a : Act) (w : World), C w → wpAnyL P md ops C n Q f listed a → wpAny P md ops Q' f listed a w
  | 0, _, _, _, _, h => h.elim
  | f + 1, listed, a, w, hw, h => by
    rcases h with ⟨h1, h2, h3⟩ | ⟨h1, h2, h3⟩
    · refine ⟨fun h0 => (by rw [h1] at h0; cases h0), fun i hi => ?_⟩
      rw [h1, List.mem_singleton] at hi
      subst hi
      refine wpOp_mono (fun a w hq => ?_) (hQ a w hw h3)
      cases f with
      | zero => exact ⟨h2, hq⟩
      | succ f => exact ⟨fun _ => hq, fun j hj => by rw [h2] at hj; cases hj⟩
    · exact ⟨fun h0 => absurd h0 h2, fun i hi => wpOp_of_qOp hw (fun a' w' hw' h => wpAny_of_L hQ f _ a' w' hw' h) (h3 i hi)⟩
theorem wpAnyL_first {P : Program} {md : Region.Mode} {ops : Array Oper} {C : World → Prop} {n fw : Nat} {Q : Act → Prop} {i : Nat} {oi : Oper} {v : Value} (hi : ops[i]? = some oi) (hsel : ∀ (j : Nat) (o : Oper) cs b, ops[j]? = some o → o.op ≠ .select cs b) (hwait : waitsB md ops fw n i = true) :
    ∀ (fuel : Nat) (listed : Array Bool) (a : Act), Closed md ops listed →
      (∀ j oj, ops[j]? = some oj → j ≠ i → listed.getD j true = false → (∀ e ∈ oj.after, Region.binds md e = true → e.on ≠ i) → oi.apart ops oj = true) →
      i ∈ Region.ready md ops listed → YieldsIn P ops C oi v a →
      wpAnyL P md ops C n Q fuel (listed.setIfInBounds i true) (a.put oi.dst v) → wpAnyL P md ops C n Q (fuel + 1) listed a := by
  intro fuel
  induction fuel with
  | zero => intro listed a _ _ _ _ H; exact H.elim
  | succ fuel ih =>
    intro listed a hcl hfree hr hy H
    have hn := not_ready hcl hr hwait
    refine .inr ⟨hn, fun h => (by rw [h] at hr; cases hr), fun j hj => ?_⟩
    by_cases hji : j = i
    · subst hji; exact hy.qOp hi H
    · have hj' := ready_mono (i := i) hj hji
      rcases H with ⟨H1, _, _⟩ | ⟨_, _, H3⟩
      · rw [H1, List.mem_singleton] at hj'
        exact absurd (hj' ▸ hj) hn
      have h1 := H3 j hj'
      obtain ⟨hjun, oj, hoj, hall⟩ := mem_ready.1 hj
      have hnot : ∀ e ∈ oj.after, Region.binds md e = true → e.on ≠ i := fun e he hb heq => by
        have h1 := hall e he hb
        rw [heq, un_of_ready hr] at h1
        cases h1
      have h2 := qOp_put hoj (hfree j oj hoj hji hjun hnot) (fun cs b => hsel i oi cs b hi) (fun cs b => hsel j oj cs b hoj) hy h1
      have hfree' : ∀ k ok, ops[k]? = some ok → k ≠ i → (listed.setIfInBounds j true).getD k true = false →
          (∀ e ∈ ok.after, Region.binds md e = true → e.on ≠ i) → oi.apart ops ok = true := fun k ok hk hki hun hno => by
        refine hfree k ok hk hki ?_ hno
        by_cases hjk : j = k
        · subst hjk; exact hjun
        · rw [getD_set_ne true hjk] at hun; exact hun
      refine qOp_mono (fun a' h3 => ih (listed.setIfInBounds j true) a' (hcl.step hj) hfree' (ready_mono hr (Ne.symm hji)) h3.1 ?_) h2
      rw [Array.setIfInBounds_comm _ _ hji]
      exact h3.2
def lexL (md : Region.Mode) (ops : Array Oper) (n : Nat) : Nat → Nat → Array Bool → Bool
  | 0, _, listed => (Region.ready md ops listed == [n]) && (Region.ready md ops (listed.setIfInBounds n true)).isEmpty
  | f + 1, k, listed => (Region.ready md ops listed).contains k && Region.free md ops listed k && waitsB md ops 40 n k && lexL md ops n f (k + 1) (listed.setIfInBounds k true)
theorem wpAnyL_lex {P : Program} {md : Region.Mode} {ops : Array Oper} {C : World → Prop} {n : Nat} {Q : Act → Prop} (hs : Region.noSelect ops = true) : ∀ (l : List Oper) (k : Nat) (listed : Array Bool) (a : Act), (∀ j o, l[j]? = some o → ops[k + j]? = some o) →
    Closed md ops listed → lexL md ops n l.length k listed = true → wpQuiet P ops C Q l a → wpAnyL P md ops C n Q (l.length + 1) listed a
  | [], _, _, _, _, _, hB, h => by
    simp only [List.length_nil, lexL, Bool.and_eq_true, beq_iff_eq, List.isEmpty_iff] at hB
    exact .inl ⟨hB.1, hB.2, h⟩
  | o :: l, k, listed, a, hl, hc, hB, h => by
    have h0 : ops[k]? = some o := by simpa using hl 0 o rfl
    simp only [List.length_cons, lexL, Bool.and_eq_true] at hB
    obtain ⟨⟨⟨hr, hf⟩, hw⟩, hB'⟩ := hB
    have hr' : k ∈ Region.ready md ops listed := by simpa using hr
    have hst : qOp P ops C k (wpQuiet P ops C Q l) a := by unfold qOp; simp only [h0]; exact h
    obtain ⟨v, hy, hK⟩ := yieldsIn_of_qOp h0 hst
    exact wpAnyL_first h0 (Region.noSelect_spec hs) hw (l.length + 1) listed a hc (Region.free_spec h0 hf) hr' hy
      (wpAnyL_lex hs l (k + 1) _ _ (fun j x hx => by have := hl (j + 1) x (by simpa using hx); simpa [Nat.add_assoc, Nat.add_comm 1 j] using this) (hc.step hr') hB' hK)
theorem wp_region_last {P : Program} {id : Nat} {Q : Exit → Act → World → Prop} {a : Act} {w : World} {l : List Oper} (n : Nat) {o : Oper} (hm : P.follows .mixedOrders = true) (ho : l[n]? = some o) (hn : l.length = n + 1) (hB : (Region.noSelect l.toArray && lexL .any l.toArray n n 0 (Array.replicate (n + 1) false)) = true)
    (h : wpQuiet P l.toArray (fun w' => ∃ p : Gr w, w' = p.u) (fun a' => ∀ p : Gr w, ∀ K : Act → World → Prop, (∀ a w, Q .normal a w → K a w) → if Region.wanted o (yielded l.toArray a'.tmps) = true then Oper.wp P o a' p.u K Q else K (a'.put o.dst undef) p.u) (l.take n) a) : (Code.region id l.toArray true).wp P Q a w := by
  rw [Bool.and_eq_true] at hB
  have hlen : (l.take n).length = n := by rw [List.length_take]; omega
  refine wp_region_any hm ?_
  have hsz : l.toArray.size = n + 1 := by simpa using hn
  rw [hsz]
  refine wpAny_of_L (C := fun w' => ∃ p : Gr w, w' = p.u) (n := n) (Q := fun a' => ∀ p : Gr w, ∀ K : Act → World → Prop, (∀ a w, Q .normal a w → K a w) → if Region.wanted o (yielded l.toArray a'.tmps) = true then Oper.wp P o a' p.u K Q else K (a'.put o.dst undef) p.u) ?_ _ _ _ _ ⟨⟨w.drew, (Below.refl _ _).drew⟩, rfl⟩ ?_
  · rintro a' w' ⟨p, rfl⟩ hq
    have := hq p (fun a w => Q .normal a w) (fun _ _ h => h)
    unfold wpOp
    rw [List.getElem?_toArray, ho]
    simp only
    split
    · rename_i hw; rw [if_pos hw] at this; exact .inl this
    · rename_i hw; rw [if_neg hw] at this; exact this
  · have := wpAnyL_lex (C := fun w' => ∃ p : Gr w, w' = p.u) (n := n) hB.1 (l.take n) 0 (Array.replicate (n + 1) false) a (fun j x hx => by
      rw [Nat.zero_add, List.getElem?_toArray]
      rw [List.getElem?_take] at hx
      split at hx
      · exact hx
      · cases hx) (Closed.start _ _ _) (by rw [hlen]; exact hB.2) h
    rw [hlen] at this
    exact this
theorem bldF_gr {T e : TypeId} {B b : Nat} {bs : List Value} {w u : World} (h : Lib.IsBuilderF T e B b bs w) (hb : Below w.heap.size w u) : Lib.IsBuilderF T e B b bs u := by
  have key : ∀ p, Lib.BuilderAtF T e B b p bs w → Lib.BuilderAtF T e B b p bs u := by
    rintro p ⟨h1, v, h2, h3, h4⟩
    have hlt : ∀ (k : Nat) (o : Obj), w.heap[k]? = some o → u.heap[k]? = some o := by
      intro k o hk
      have hkl : k < w.heap.size := (Array.getElem?_eq_some_iff.1 hk).1
      rw [hb.block k hkl]; exact hk
    refine ⟨h1, v, hlt _ _ h2, ?_, h4⟩
    refine ⟨h3.1, ?_⟩
    rcases h3.2 with h | ⟨g, cap, cur, fz, hv, hg1, hg2, r⟩
    · exact .inl h
    · exact .inr ⟨g, cap, cur, fz, hv, hg1, hlt _ _ hg2, r⟩
  rcases h with h | h
  · exact .inl (key _ h)
  · exact .inr (key _ h)
end Go.Proofs.YtnnpgnkmmahomabGreatDoor
