import Derived.Test.YtpdahhnjhggocaaGreatDoorBun16
namespace Go.Proofs.YtpdahhnjhggocaaGreatDoor
/-- Two sorted lists with the same members are one. -/
theorem sorted_ext {R : List Plain} {l m : List PLine} (hl : l.Pairwise (fun a b => lineLt R a b = true)) (hm : m.Pairwise (fun a b => lineLt R a b = true)) (h : ∀ a, a ∈ l ↔ a ∈ m) : l = m := by
  have nd : ∀ {l : List PLine}, l.Pairwise (fun a b => lineLt R a b = true) → l.Nodup := fun h => h.imp (fun {a b} hab e => by subst e; exact lineLt_irr R _ hab)
  exact sorted_unique (lineLt_irr R) (lineLt_trans R) hl hm ((List.perm_ext_iff_of_nodup (nd hl) (nd hm)).2 h)
def trimL (R : List Plain) (ls : List PLine) : List PLine := ls.filter (keepT R)
theorem LinesOk.sub {R : List Plain} {l m : List PLine} (h : LinesOk R m) (hs : l.Sublist m) : LinesOk R l := by
  refine ⟨fun a ha => h.1 a (hs.subset ha), h.2.1.sublist hs, fun a ha => ?_⟩
  have h3 := h.2.2 a (hs.subset ha)
  have hc : keyN l a.key ≤ keyN m a.key := hs.countP_le
  exact ⟨h3.1.imp id (fun h => Nat.le_trans hc h), Nat.le_trans hc h3.2⟩
theorem trim_ok {R : List Plain} {ls : List PLine} (h : LinesOk R ls) : LinesOk R (trimL R ls) := h.sub List.filter_sublist
theorem fill_mem {R : List Plain} {ls : List PLine} {a : PLine} : a ∈ fillL R ls ↔ a ∈ ls ∨ ∃ p ∈ R, p.2.2.1 = false ∧ hasK ls p.1 = false ∧ a = defL p := by
  unfold fillL
  rw [(normLs_perm _ _).mem_iff, List.mem_append]
  refine or_congr Iff.rfl ⟨unsaid_mem, ?_⟩
  rintro ⟨p, hp, h1, h2, rfl⟩
  unfold unsaid
  refine List.mem_map_of_mem (List.mem_filter.2 ⟨hp, ?_⟩)
  simp [isUnsaid, h1, h2]
theorem nodup_eq {R : List Plain} (hn : NodupK R) {p q : Plain} (hp : p ∈ R) (hq : q ∈ R) (e : p.1 = q.1) : p = q := by
  induction R with
  | nil => cases hp
  | cons r R ih =>
    have h := List.pairwise_cons.1 hn
    rcases List.mem_cons.1 hp with e1 | h1
    · rcases List.mem_cons.1 hq with e2 | h2
      · rw [e1, e2]
      · exact absurd (e1 ▸ e) (h.1 q h2)
    · rcases List.mem_cons.1 hq with e2 | h2
      · exact absurd (e2 ▸ e.symm) (h.1 p h1)
      · exact ih h.2 h1 h2
theorem pick_of {R : List Plain} (hn : NodupK R) {p : Plain} (hp : p ∈ R) : pickR R p.1 = some p := by
  unfold pickR
  have : (R.find? (fun q => q.1.toList == p.1.toList)).isSome = true := by
    rw [List.find?_isSome]; exact ⟨p, hp, by simp⟩
  obtain ⟨q, hq⟩ := Option.isSome_iff_exists.1 this
  have h1 := List.mem_of_find?_eq_some hq
  have h2 := List.find?_some hq
  have h3 : q.1 = p.1 := toList_inj (by simpa using h2)
  rw [hq, nodup_eq hn h1 hp h3]
theorem picked {R : List Plain} {key : ByteArray} {p : Plain} (h : pickR R key = some p) : p ∈ R ∧ p.1 = key := by
  unfold pickR at h
  have h2 := List.find?_some h
  exact ⟨List.mem_of_find?_eq_some h, toList_inj (by simpa using h2)⟩
theorem keepT_of {R : List Plain} (hn : NodupK R) {p : Plain} (hp : p ∈ R) {a : PLine} (hk : a.key = p.1) : keepT R a = (p.2.2.1 || !decide (a.ws = p.2.2.2)) := by
  unfold keepT; rw [hk, pick_of hn hp]
/-- A line that fits has its rule. -/
theorem LinesOk.rule {R : List Plain} {ls : List PLine} (h : LinesOk R ls) {a : PLine} (ha : a ∈ ls) : ∃ p ∈ R, p.1 = a.key := by
  have := h.1 a ha
  unfold fitsIn at this
  cases hp : pickR R a.key with
  | none => rw [hp] at this; cases this
  | some p => exact ⟨p, (picked hp).1, (picked hp).2⟩
/-- A key that is not many is said once at most. -/
theorem LinesOk.once {R : List Plain} (hn : NodupK R) {ls : List PLine} (h : LinesOk R ls) {p : Plain} (hp : p ∈ R) (hm : p.2.2.1 = false) {a b : PLine} (ha : a ∈ ls) (hb : b ∈ ls) (ka : a.key = p.1) (kb : b.key = p.1) : a = b := by
  have h1 : keyN ls p.1 ≤ 1 := by
    rcases (h.2.2 a ha).1 with h1 | h1
    · unfold manyR at h1; rw [ka, pick_of hn hp] at h1; simp [hm] at h1
    · rw [← ka]; exact h1
  unfold keyN at h1
  rw [List.countP_eq_length_filter] at h1
  have a1 : a ∈ ls.filter (fun a => a.key.toList == p.1.toList) := List.mem_filter.2 ⟨ha, by simp [ka]⟩
  have b1 : b ∈ ls.filter (fun a => a.key.toList == p.1.toList) := List.mem_filter.2 ⟨hb, by simp [kb]⟩
  generalize ls.filter (fun a => a.key.toList == p.1.toList) = F at *
  match F, h1 with
  | [], _ => cases a1
  | [x], _ => rw [List.mem_singleton.1 a1, List.mem_singleton.1 b1]
  | _ :: _ :: _, h1 => simp at h1
theorem trim_def {R : List Plain} (hn : NodupK R) {p : Plain} (hp : p ∈ R) (hm : p.2.2.1 = false) : keepT R (defL p) = false := by
  rw [keepT_of hn hp (a := defL p) rfl, hm]
  simp [defL]
theorem fill_fill {R : List Plain} {ls : List PLine} (h : LinesOk R ls) (hg : GoodR R) (hn : NodupK R) : fillL R (fillL R ls) = fillL R ls := by
  have h1 := fill_ok h hg hn
  have h2 := fill_ok h1 hg hn
  refine sorted_ext h2.2.1 h1.2.1 fun a => ?_
  rw [fill_mem]
  refine ⟨?_, .inl⟩
  rintro (h0 | ⟨p, hp, hm, hk, rfl⟩)
  · exact h0
  · exfalso
    have := hasK_false.1 hk
    cases hh : hasK ls p.1
    · exact this (defL p) (fill_mem.2 (.inr ⟨p, hp, hm, hh, rfl⟩)) rfl
    · obtain ⟨b, hb, e⟩ := hasK_iff.1 hh
      exact this b (fill_mem.2 (.inl hb)) e
theorem fill_trim {R : List Plain} {ls : List PLine} (h : LinesOk R ls) (hg : GoodR R) (hn : NodupK R) : fillL R (trimL R ls) = fillL R ls := by
  have h1 := fill_ok h hg hn
  have h2 := fill_ok (trim_ok h) hg hn
  refine sorted_ext h2.2.1 h1.2.1 fun a => ?_
  rw [fill_mem, fill_mem]
  unfold trimL
  constructor
  · rintro (h0 | ⟨p, hp, hm, hk, rfl⟩)
    · exact .inl (List.mem_filter.1 h0).1
    · cases hh : hasK ls p.1
      · exact .inr ⟨p, hp, hm, hh, rfl⟩
      · obtain ⟨b, hb, e⟩ := hasK_iff.1 hh
        have hno := hasK_false.1 hk b
        left
        have hkb : keepT R b = false := by
          cases hkb : keepT R b
          · rfl
          · exact absurd e (hno (List.mem_filter.2 ⟨hb, hkb⟩))
        rw [keepT_of hn hp e, hm] at hkb
        have : b.ws = p.2.2.2 := by simpa using hkb
        have : b = defL p := by cases b; simp only [defL] at *; subst e this; rfl
        rw [← this]; exact hb
  · rintro (h0 | ⟨p, hp, hm, hk, rfl⟩)
    · cases hka : keepT R a
      · obtain ⟨p, hp, e⟩ := h.rule h0
        rw [keepT_of hn hp e.symm] at hka
        simp only [Bool.or_eq_false_iff, Bool.not_eq_false', decide_eq_true_eq] at hka
        have ea : a = defL p := by cases a; simp only [defL] at *; obtain ⟨_, rfl⟩ := hka; subst e; rfl
        refine .inr ⟨p, hp, hka.1, hasK_false.2 fun b hb eb => ?_, ea⟩
        have hb' := List.mem_filter.1 hb
        have := h.once hn hp hka.1 h0 hb'.1 e.symm eb
        rw [← this, ea, trim_def hn hp hka.1] at hb'
        exact absurd hb'.2 (by decide)
      · exact .inl (List.mem_filter.2 ⟨h0, hka⟩)
    · exact .inr ⟨p, hp, hm, hasK_false.2 fun b hb => hasK_false.1 hk b (List.mem_filter.1 hb).1, rfl⟩
theorem trim_fill {R : List Plain} {ls : List PLine} (h : LinesOk R ls) (hg : GoodR R) (hn : NodupK R) : trimL R (fillL R ls) = trimL R ls := by
  refine sorted_ext (trim_ok (fill_ok h hg hn)).2.1 (trim_ok h).2.1 fun a => ?_
  unfold trimL
  rw [List.mem_filter, List.mem_filter, fill_mem]
  constructor
  · rintro ⟨h0 | ⟨p, hp, hm, hk, rfl⟩, hka⟩
    · exact ⟨h0, hka⟩
    · rw [trim_def hn hp hm] at hka; cases hka
  · exact fun h => ⟨.inl h.1, h.2⟩
theorem of_sorted {R : List Plain} {ls : List PLine} (h : LinesOk R ls) (k : ByteArray) : (ofK ls k).Pairwise (fun a b => lineLt R a b = true) := h.2.1.sublist List.filter_sublist
theorem of_mem {ls : List PLine} {k : ByteArray} {a : PLine} : a ∈ ofK ls k ↔ a ∈ ls ∧ a.key = k := by
  unfold ofK
  rw [List.mem_filter]
  refine and_congr Iff.rfl ⟨fun h => toList_inj (by simpa using h), fun h => by simp [h]⟩
theorem of_nil {ls : List PLine} {k : ByteArray} (h : hasK ls k = false) : ofK ls k = [] := by
  have := hasK_of ls k
  rw [h] at this
  simpa using this
theorem of_some {ls : List PLine} {k : ByteArray} (h : hasK ls k = true) : (ofK ls k).isEmpty = false := by rw [hasK_of, h]; rfl
/-- A key that is not many is told as one line. -/
theorem of_once {R : List Plain} (hn : NodupK R) {ls : List PLine} (h : LinesOk R ls) {p : Plain} (hp : p ∈ R) (hm : p.2.2.1 = false) {a : PLine} (ha : a ∈ ls) (ka : a.key = p.1) : ofK ls p.1 = [a] := by
  refine sorted_ext (R := R) (of_sorted h _) (List.pairwise_singleton _ _) fun b => ?_
  rw [of_mem, List.mem_singleton]
  exact ⟨fun hb => h.once hn hp hm hb.1 ha hb.2 ka, fun e => by rw [e]; exact ⟨ha, ka⟩⟩
theorem tell_one {R : List Plain} (hn : NodupK R) {ls : List PLine} (h : LinesOk R ls) {p : Plain} (hp : p ∈ R) (hm : p.2.2.1 = false) : (tellL p ls).length = 1 := by
  unfold tellL
  cases hk : hasK ls p.1
  · rw [of_nil hk, hm]; rfl
  · obtain ⟨a, ha, ka⟩ := hasK_iff.1 hk
    rw [of_once hn h hp hm ha ka]; rfl
theorem tell_many {p : Plain} {ls : List PLine} (hm : p.2.2.1 = true) : tellL p ls = ofK ls p.1 := by unfold tellL; simp [hm]
theorem tell_said {p : Plain} {ls : List PLine} (h : hasK ls p.1 = true) : tellL p ls = ofK ls p.1 := by unfold tellL; rw [of_some h]; rfl
theorem tell_unsaid {p : Plain} {ls : List PLine} (hm : p.2.2.1 = false) (h : hasK ls p.1 = false) : tellL p ls = [defL p] := by unfold tellL; rw [of_nil h, hm]; rfl
theorem tell_fill {R : List Plain} {ls : List PLine} (h : LinesOk R ls) (hg : GoodR R) (hn : NodupK R) {p : Plain} (hp : p ∈ R) : tellL p (fillL R ls) = tellL p ls := by
  have hf := fill_ok h hg hn
  cases hm : p.2.2.1
  · cases hk : hasK ls p.1
    · have hin : defL p ∈ fillL R ls := fill_mem.2 (.inr ⟨p, hp, hm, hk, rfl⟩)
      rw [tell_unsaid hm hk, tell_said (hasK_iff.2 ⟨_, hin, rfl⟩), of_once hn hf hp hm hin rfl]
    · obtain ⟨a, ha, ka⟩ := hasK_iff.1 hk
      have hin : a ∈ fillL R ls := fill_mem.2 (.inl ha)
      rw [tell_said hk, tell_said (hasK_iff.2 ⟨_, hin, ka⟩), of_once hn hf hp hm hin ka, of_once hn h hp hm ha ka]
  · rw [tell_many hm, tell_many hm]
    refine sorted_ext (R := R) (of_sorted hf _) (of_sorted h _) fun a => ?_
    rw [of_mem, of_mem, fill_mem]
    constructor
    · rintro ⟨h0 | ⟨q, hq, hqm, _, rfl⟩, ka⟩
      · exact ⟨h0, ka⟩
      · rw [nodup_eq hn hq hp ka, hm] at hqm; cases hqm
    · exact fun h => ⟨.inl h.1, h.2⟩
theorem tell_trim {R : List Plain} {ls : List PLine} (h : LinesOk R ls) (hn : NodupK R) {p : Plain} (hp : p ∈ R) : tellL p (trimL R ls) = tellL p ls := by
  have ht := trim_ok h
  cases hm : p.2.2.1
  · cases hk : hasK ls p.1
    · rw [tell_unsaid hm hk, tell_unsaid (ls := trimL R ls) hm (hasK_false.2 fun b hb => hasK_false.1 hk b (List.mem_filter.1 hb).1)]
    · obtain ⟨a, ha, ka⟩ := hasK_iff.1 hk
      rw [tell_said hk, of_once hn h hp hm ha ka]
      cases hka : keepT R a
      · have e := hka
        rw [keepT_of hn hp ka, hm] at e
        have e3 : a.ws = p.2.2.2 := by simpa using e
        clear e
        have ea : a = defL p := by cases a; simp only [defL] at *; subst ka e3; rfl
        rw [tell_unsaid (ls := trimL R ls) hm (hasK_false.2 fun b hb eb => ?_), ea]
        have hb' := List.mem_filter.1 hb
        rw [h.once hn hp hm hb'.1 ha eb ka, hka] at hb'
        exact absurd hb'.2 (by decide)
      · have hin : a ∈ trimL R ls := List.mem_filter.2 ⟨ha, hka⟩
        rw [tell_said (hasK_iff.2 ⟨_, hin, ka⟩), of_once hn ht hp hm hin ka]
  · rw [tell_many hm, tell_many hm]
    refine sorted_ext (R := R) (of_sorted ht _) (of_sorted h _) fun a => ?_
    rw [of_mem, of_mem]
    unfold trimL
    rw [List.mem_filter]
    refine ⟨fun h => ⟨h.1.1, h.2⟩, fun h => ⟨⟨h.1, ?_⟩, h.2⟩⟩
    rw [keepT_of hn hp h.2, hm]; rfl
/-- Sheets. -/
theorem map_ok {f : PBlock → PBlock} (hk : ∀ b, (f b).kind = b.kind) (hnm : ∀ b, (f b).name = b.name) {bs : List PBlock} (h : SheetOk bs) (hl : ∀ b ∈ bs, LinesOk (rulesOf b.kind) (f b).lines) : SheetOk (bs.map f) := by
  refine ⟨by simpa using h.1, fun b hb => ?_, ?_⟩
  · obtain ⟨a, ha, rfl⟩ := List.mem_map.1 hb
    have := h.2.1 a ha
    rw [hk, hnm]
    exact ⟨this.1, this.2.1, hl a ha⟩
  · rw [List.pairwise_map]
    refine h.2.2.imp fun {a b} hab => ?_
    rw [blockLt_iff] at *
    rw [hk, hk, hnm, hnm]; exact hab
theorem fillS_ok {bs : List PBlock} (h : SheetOk bs) : SheetOk (bs.map fillP) := map_ok (f := fillP) (fun _ => rfl) (fun _ => rfl) h fun b hb => fill_ok (h.2.1 b hb).2.2 (rulesOf_good b.kind) (rulesOf_nodupK b.kind)
theorem trimS_ok {bs : List PBlock} (h : SheetOk bs) : SheetOk (bs.map trimP) := map_ok (f := trimP) (fun _ => rfl) (fun _ => rfl) h fun b hb => trim_ok (h.2.1 b hb).2.2
theorem fillS_of {bs : List PBlock} (h : SheetOk bs) : fillS bs = bs.map fillP := by unfold fillS; rw [if_pos (sheetB_iff.2 h)]
theorem trimS_of {bs : List PBlock} (h : SheetOk bs) : trimS bs = bs.map trimP := by unfold trimS; rw [if_pos (sheetB_iff.2 h)]
theorem fillS_fill {bs : List PBlock} (h : SheetOk bs) : fillS (fillS bs) = fillS bs := by
  rw [fillS_of h, fillS_of (fillS_ok h), List.map_map]
  refine List.map_congr_left fun b hb => ?_
  show PBlock.mk _ _ _ = PBlock.mk _ _ _
  congr 1
  exact fill_fill (h.2.1 b hb).2.2 (rulesOf_good b.kind) (rulesOf_nodupK b.kind)
theorem fillS_trim {bs : List PBlock} (h : SheetOk bs) : fillS (trimS bs) = fillS bs := by
  rw [fillS_of h, trimS_of h, fillS_of (trimS_ok h), List.map_map]
  refine List.map_congr_left fun b hb => ?_
  show PBlock.mk _ _ _ = PBlock.mk _ _ _
  congr 1
  exact fill_trim (h.2.1 b hb).2.2 (rulesOf_good b.kind) (rulesOf_nodupK b.kind)
theorem trimS_fill {bs : List PBlock} (h : SheetOk bs) : trimS (fillS bs) = trimS bs := by
  rw [fillS_of h, trimS_of h, trimS_of (fillS_ok h), List.map_map]
  refine List.map_congr_left fun b hb => ?_
  show PBlock.mk _ _ _ = PBlock.mk _ _ _
  congr 1
  exact trim_fill (h.2.1 b hb).2.2 (rulesOf_good b.kind) (rulesOf_nodupK b.kind)
theorem find_map {f : PBlock → PBlock} (hk : ∀ b, (f b).kind = b.kind) (hnm : ∀ b, (f b).name = b.name) (bs : List PBlock) (kind name : ByteArray) : (bs.map f).find? (isHead kind name) = (bs.find? (isHead kind name)).map f := by
  rw [List.find?_map]
  congr 2
  funext b
  show isHead kind name (f b) = isHead kind name b
  unfold isHead; rw [hk, hnm]
theorem head_found {bs : List PBlock} {b : PBlock} (hb : b ∈ bs) : ∃ c ∈ bs, bs.find? (isHead b.kind b.name) = some c ∧ c.kind = b.kind := by
  have : (bs.find? (isHead b.kind b.name)).isSome = true := by
    rw [List.find?_isSome]; exact ⟨b, hb, by simp [isHead]⟩
  obtain ⟨c, hc⟩ := Option.isSome_iff_exists.1 this
  have h2 := List.find?_some hc
  unfold isHead at h2
  simp only [Bool.and_eq_true, beq_iff_eq] at h2
  exact ⟨c, List.mem_of_find?_eq_some hc, hc, toList_inj h2.1⟩
/-- What SheetGet tells of a block's key, as it stands, filled or trimmed. -/
theorem get_three {bs : List PBlock} (h : SheetOk bs) {b : PBlock} (hb : b ∈ bs) {p : Plain} (hp : p ∈ rulesOf b.kind) : ∃ T, getS bs b.kind b.name p.1 = (true, T) ∧ getS (fillS bs) b.kind b.name p.1 = (true, T) ∧ getS (trimS bs) b.kind b.name p.1 = (true, T) ∧ (p.2.2.1 = false → T.length = 1) := by
  obtain ⟨c, hc, hf, hk⟩ := head_found hb
  have hn := rulesOf_nodupK b.kind
  have hpk := pick_of hn hp
  have hok := (h.2.1 c hc).2.2
  rw [hk] at hok
  refine ⟨tellL p c.lines, getS_hit (sheetB_iff.2 h) hpk hf, ?_, ?_, tell_one hn hok hp⟩
  · rw [fillS_of h, getS_hit (sheetB_iff.2 (fillS_ok h)) hpk (b := fillP c) (by rw [find_map (f := fillP) (fun _ => rfl) (fun _ => rfl), hf]; rfl)]
    show (true, tellL p (fillL (rulesOf c.kind) c.lines)) = _
    rw [hk, tell_fill hok (rulesOf_good b.kind) hn hp]
  · rw [trimS_of h, getS_hit (sheetB_iff.2 (trimS_ok h)) hpk (b := trimP c) (by rw [find_map (f := trimP) (fun _ => rfl) (fun _ => rfl), hf]; rfl)]
    show (true, tellL p (trimL (rulesOf c.kind) c.lines)) = _
    rw [hk, tell_trim hok hn hp]
theorem keys_count : ∀ (R : List Plain) (ls : List PLine), (∀ a ∈ ls, ∃ p ∈ R, p.1 = a.key) → (∀ k, keyN ls k ≤ 10) → ls.length ≤ 10 * R.length
  | [], ls, h, _ => by
    cases ls with
    | nil => simp
    | cons a ls => obtain ⟨p, hp, _⟩ := h a (by simp); cases hp
  | p :: R, ls, h, hk => by
    have h1 := keys_count R (ls.filter (fun a => !(a.key.toList == p.1.toList))) (fun a ha => by
      have hf := List.mem_filter.1 ha
      obtain ⟨q, hq, e⟩ := h a hf.1
      rcases List.mem_cons.1 hq with rfl | hq
      · have := hf.2; rw [e] at this; simp at this
      · exact ⟨q, hq, e⟩) (fun k => by
        unfold keyN
        have := List.Sublist.countP_le (p := fun a : PLine => a.key.toList == k.toList) (List.filter_sublist (p := fun a : PLine => !(a.key.toList == p.1.toList)) (l := ls))
        have h2 := hk k
        unfold keyN at h2
        omega)
    have h2 := hk p.1
    unfold keyN at h2
    have h3 := List.length_eq_countP_add_countP (fun a : PLine => a.key.toList == p.1.toList) (l := ls)
    rw [← List.countP_eq_length_filter] at h1
    have h4 : ls.countP (fun a => !(a.key.toList == p.1.toList)) = ls.countP (fun a => decide ¬ ((a.key.toList == p.1.toList) = true)) := by
      congr 1; funext a; cases (a.key.toList == p.1.toList) <;> rfl
    rw [h4] at h1
    rw [List.length_cons]
    omega
theorem LinesOk.few {R : List Plain} {ls : List PLine} (h : LinesOk R ls) : ls.length ≤ 10 * R.length := by
  refine keys_count R ls (fun a ha => ?_) (fun k => ?_)
  · have hf := h.1 a ha
    have hp : pickR R a.key ≠ none := fun e => by rw [fitsIn_none _ e] at hf; cases hf
    obtain ⟨p, hp⟩ := Option.ne_none_iff_exists'.1 hp
    obtain ⟨i, _, hi, e⟩ := pick_place hp
    exact ⟨p, List.mem_of_getElem? hi, e⟩
  · by_cases hk : ∃ a ∈ ls, a.key = k
    · obtain ⟨a, ha, rfl⟩ := hk
      exact (h.2.2 a ha).2
    · rw [keyN_zero (fun a ha e => hk ⟨a, ha, e⟩)]; omega
end Go.Proofs.YtpdahhnjhggocaaGreatDoor
