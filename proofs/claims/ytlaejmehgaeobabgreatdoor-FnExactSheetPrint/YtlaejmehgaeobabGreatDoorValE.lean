import Derived.Test.YtlaejmehgaeobabGreatDoorValD
namespace Go.Proofs.YtlaejmehgaeobabGreatDoor
open Go.RowKit
/-- Two rows of words are alike up to a place. -/
def AlikeTo (xs ys : List (List UInt8)) (k : Nat) : Prop := xs.take k = ys.take k
theorem AlikeTo.zero (xs ys : List (List UInt8)) : AlikeTo xs ys 0 := by simp [AlikeTo]
theorem AlikeTo.succ {xs ys : List (List UInt8)} {k : Nat} (h : AlikeTo xs ys k) (h1 : k < xs.length) (h2 : k < ys.length) (e : (xs[k] == ys[k]) = true) : AlikeTo xs ys (k + 1) := by
  unfold AlikeTo at *
  rw [List.take_succ_eq_append_getElem h1, List.take_succ_eq_append_getElem h2, h, beq_iff_eq.1 e]
theorem alike_no {xs ys : List (List UInt8)} {k : Nat} (h1 : k < xs.length) (h2 : k < ys.length) (e : (xs[k] == ys[k]) = false) : false = decide (xs = ys) := by
  rw [decide_eq_false]
  intro h
  subst h
  simp at e
theorem AlikeTo.all {xs ys : List (List UInt8)} (h : AlikeTo xs ys xs.length) (hl : xs.length = ys.length) : true = decide (xs = ys) := by
  unfold AlikeTo at h
  rw [decide_eq_true]
  rw [List.take_length] at h
  rw [h, hl, List.take_length]
theorem Grown.drews {w w' : World} (h : Grown w w') : Grown w w'.drew := h.drewN 1
set_option maxHeartbeats 1000000 in
set_option maxRecDepth 100000 in
theorem slicesEqual_any {n m ca cb : Nat} {ao bo : Option Addr} {xs ys : List (List UInt8)} {w : World} (h1 : HasRow w (.slice ao n ca) xs.length 1 (strs xs)) (h2 : HasRow w (.slice bo m cb) ys.length 1 (strs ys)) (hn : n ≤ 1048576) (hm : m ≤ 1048576) : Calls Tryz.prog 153 #[.slice ao n ca, .slice bo m cb] w fun e w' => e = .returned (.bool (decide (xs = ys))) ∧ ∃ q, w' = w.drewN q := by
  have en := hid_in (show n = xs.length by obtain ⟨_, _, _, e, _⟩ := h1; cases e; rfl)
  have em := hid_in (show m = ys.length by obtain ⟨_, _, _, e, _⟩ := h2; cases e; rfl)
  by_cases hnm : n = m
  · subst hnm
    have hn0 : ((n : Int) != (n : Int)) = false := by simp
    go_enter Tryz.func153, Tryz.ntmps153
    go_wp2
    go_loopw [13] (fun i wr => ∃ k q : Nat, k ≤ n ∧ i = .int .i64 (k : Int) ∧ wr = w.drewN q ∧ AlikeTo xs ys k) (fun i _ => n - (intOf i).toNat)
    case atStart => exact ⟨0, 0, by omega, rfl, rfl, AlikeTo.zero _ _⟩
    case round =>
      obtain ⟨k, q, hk, rfl, rfl, hA⟩ := hrel
      by_cases hlt : k < n
      · have lk : k < xs.length := by have := en.out; omega
        have lk2 : k < ys.length := by have := em.out; omega
        obtain ⟨b, off, rfl, c1⟩ := h1.word k lk
        obtain ⟨b2, off2, rfl, c2⟩ := h2.word k lk2
        have e1 : (ByteArray.mk xs[k].toArray).toList = xs[k] := by rw [ByteArray.toList_eq]
        have e2 : (ByteArray.mk ys[k].toArray).toList = ys[k] := by rw [ByteArray.toList_eq]
        cases he : (xs[k] == ys[k])
        · have HA := hid_in (alike_no lk lk2 he)
          rw [← e1, ← e2] at he
          generalize (⟨xs[k].toArray⟩ : ByteArray) = x at *
          generalize (⟨ys[k].toArray⟩ : ByteArray) = y at *
          clear hA h1 h2 e1 e2
          go_wp2
          go_quiet (fail)
          go_wp2
          go_ret
          exact ⟨ret_bool HA.out, _, by first | rfl | exact World.drewN_drewN _ _ _⟩
        · have HA := hA.succ lk lk2 he
          rw [← e1, ← e2] at he
          generalize (⟨xs[k].toArray⟩ : ByteArray) = x at *
          generalize (⟨ys[k].toArray⟩ : ByteArray) = y at *
          clear hA h1 h2 e1 e2
          go_wp2
          go_quiet (fail)
          go_wp2
          go_roundw
          case rel => exact ⟨k + 1, _, by omega, by go_num, by first | rfl | exact World.drewN_drewN _ _ _, HA⟩
          case measure => simp [intOf]; omega
      · obtain rfl : k = n := by omega
        have HA := hid_in (AlikeTo.all (en.out ▸ hA) (en.out.symm.trans em.out))
        clear hA h1 h2
        go_wp2
        go_ret
        exact ⟨ret_bool HA.out, q, rfl⟩
  · have hn0 : ((n : Int) != (m : Int)) = true := by rw [bne_iff_ne]; omega
    have HA := hid_in (show false = decide (xs = ys) by rw [decide_eq_false]; rintro rfl; exact hnm (en.out.trans em.out.symm))
    clear h1 h2
    go_enter Tryz.func153, Tryz.ntmps153
    go_wp2
    go_ret
    exact ⟨ret_bool HA.out, 0, rfl⟩
/-- No line among the first k is the line, or has its key where that is not many; c have its key. -/
def SeenTo (many : Bool) (es : List LAt) (a : PLine) (k c : Nat) : Prop := c = keyN ((es.take k).map LAt.plain) a.key ∧ ∀ o ∈ es.take k, (o.key.toList == a.key.toList && (!many || decide (o.ws = a.ws))) = false
theorem SeenTo.zero (many : Bool) (es : List LAt) (a : PLine) : SeenTo many es a 0 0 := ⟨by simp [keyN], by simp⟩
theorem take_one {α : Type} (D T : List α) (r : α) : (D ++ r :: T).take (D.length + 1) = D ++ [r] := by
  rw [List.take_append, List.take_of_length_le (by omega), show D.length + 1 - D.length = 1 from by omega]; rfl
theorem take_front {α : Type} (D T : List α) : (D ++ T).take D.length = D := by
  rw [List.take_append_of_le_length (Nat.le_refl _), List.take_length]
theorem SeenTo.other {many : Bool} {D T : List LAt} {r : LAt} {a : PLine} {c : Nat} (h : SeenTo many (D ++ r :: T) a D.length c) (hk : (r.key.toList == a.key.toList) = false) : SeenTo many (D ++ r :: T) a (D.length + 1) c := by
  obtain ⟨h1, h2⟩ := h
  rw [take_front] at h1 h2
  refine ⟨?_, ?_⟩
  · rw [take_one, List.map_append, keyN_append, ← h1, List.map_singleton, keyN_one, if_neg]
    · rfl
    · intro e; rw [show r.plain.key = r.key from rfl] at e; rw [e] at hk; simp at hk
  · rw [take_one]
    intro o ho
    rcases List.mem_append.1 ho with ho | ho
    · exact h2 o ho
    · rw [List.mem_singleton.1 ho, hk]; rfl
theorem SeenTo.count {many : Bool} {D T : List LAt} {r : LAt} {a : PLine} {c : Nat} (h : SeenTo many (D ++ r :: T) a D.length c) (hk : (r.key.toList == a.key.toList) = true) (hm : many = true) (hw : decide (r.ws = a.ws) = false) : SeenTo many (D ++ r :: T) a (D.length + 1) (c + 1) := by
  obtain ⟨h1, h2⟩ := h
  rw [take_front] at h1 h2
  refine ⟨?_, ?_⟩
  · rw [take_one, List.map_append, keyN_append, ← h1, List.map_singleton, keyN_one, if_pos]
    exact toList_inj (show r.key.toList = a.key.toList by simpa using hk)
  · rw [take_one]
    intro o ho
    rcases List.mem_append.1 ho with ho | ho
    · exact h2 o ho
    · rw [List.mem_singleton.1 ho, hk, hm, hw]; rfl
theorem seen_twice {R : List Plain} {p : Plain} {D T : List LAt} {r : LAt} {a : PLine} (hp : pickR R a.key = some p) (hf : fitsWords p.2.1 a.ws = true) (hk : (r.key.toList == a.key.toList) = true) (hw : (!p.2.2.1 || decide (r.ws = a.ws)) = true) : (6 : Int) = lineFault R ((D ++ r :: T).map LAt.plain) a := by
  have hm : manyR R a.key = p.2.2.1 := by unfold manyR; rw [hp]
  unfold lineFault
  rw [if_neg (by rw [hp]; simp), if_neg (by rw [fitsIn_some _ hp, hf]; simp), if_pos]
  rw [List.any_eq_true]
  refine ⟨r.plain, by simp, ?_⟩
  rw [hm, show r.plain.key = r.key from rfl, show r.plain.ws = r.ws from rfl, hk, hw]; rfl
theorem SeenTo.fault {R : List Plain} {p : Plain} {es : List LAt} {a : PLine} {c : Nat} (h : SeenTo p.2.2.1 es a es.length c) (hp : pickR R a.key = some p) (hf : fitsWords p.2.1 a.ws = true) : (if 10 ≤ c then (10 : Int) else 0) = lineFault R (es.map LAt.plain) a := by
  obtain ⟨h1, h2⟩ := h
  rw [List.take_length] at h1 h2
  have hm : manyR R a.key = p.2.2.1 := by unfold manyR; rw [hp]
  have hany : (es.map LAt.plain).any (fun o => o.key.toList == a.key.toList && (!manyR R a.key || decide (o.ws = a.ws))) = false := by
    rw [List.any_eq_false]
    intro o ho
    obtain ⟨b, hb, rfl⟩ := List.mem_map.1 ho
    rw [hm, show (b.plain.key.toList == a.key.toList && (!p.2.2.1 || decide (b.plain.ws = a.ws))) = false from h2 b hb]
    decide
  unfold lineFault
  symm
  rw [if_neg (by rw [hp]; simp), if_neg (by rw [fitsIn_some _ hp, hf]; simp), hany, if_neg (by decide), h1]
theorem lineFault_key {R : List Plain} {es : List PLine} {a : PLine} (hp : pickR R a.key = none) : (5 : Int) = lineFault R es a := by unfold lineFault; rw [if_pos hp]
theorem lineFault_args {R : List Plain} {p : Plain} {es : List PLine} {a : PLine} (hp : pickR R a.key = some p) (hf : fitsWords p.2.1 a.ws = false) : (7 : Int) = lineFault R es a := by
  unfold lineFault; rw [if_neg (by rw [hp]; simp), if_pos (by rw [fitsIn_some _ hp, hf])]
theorem box_there {w w' : World} {cs : Array Value} {T : TypeId} (hb : Below (w.heap.size + 1) (w.alloc (.cells cs T)) w') (j : Nat) : w'.cell? ⟨w.heap.size, j, none⟩ = cs[j]? := by
  unfold World.cell?
  rw [show w'.heap[w.heap.size]? = some (.cells cs T (0, 0)) from (hb.block _ (by omega)).trans (alloc_here _ _)]
  rfl
theorem size_alloc' (w : World) (o : Obj) : (w.alloc o).heap.size = w.heap.size + 1 := by simp
set_option maxHeartbeats 4000000 in
set_option maxRecDepth 100000 in
theorem lineFault_any {B : Nat} {vr vl vw : Value} {L : List RAt} {es : List LAt} (a : PLine) {w : World} (hr : RulesAt B w vr L) (hsm : SmallR (L.map RAt.plain)) (hes : LinesIn w vl es) (hel : es.length ≤ 1048576) (hew : ∀ x ∈ es, x.ws.length ≤ 1048576) (hx : HasRow w vw a.ws.length 1 (strs a.ws)) (hxl : a.ws.length ≤ 1048576) (hxs : ∀ x ∈ a.ws, x.length ≤ 1048576) (hst : StdAt w) :
    Calls Tryz.prog 124 #[vr, vl, .agg #[.string a.key, vw]] w fun e w' => e = .returned (.int .i64 (lineFault (L.map RAt.plain) (es.map LAt.plain) a)) ∧ Below w.heap.size w w' := by
  obtain ⟨aw, cw, rfl⟩ := hx.form
  obtain ⟨al, cl, rfl⟩ := hes.1.form
  have hl12 : L.length ≤ 12 := by have := hsm.1; rwa [List.length_map] at this
  have b0 : Below w.heap.size w (w.alloc (.cells #[.string a.key, .slice aw a.ws.length cw] 63)) := (Below.refl _ _).alloc (Nat.le_refl _) _
  have hrA : RulesAt B (w.alloc (.cells #[.string a.key, .slice aw a.ws.length cw] 63)) vr L := Mem.below hr b0
  have HF := findRule_any a.key hrA hl12
  have hc0 := one_box (w := w) (cs := #[.string a.key, .slice aw a.ws.length cw]) (T := 63)
  generalize hnw : a.ws.length = nw at *
  generalize hne : es.length = ne at *
  generalize hF : lineFault (L.map RAt.plain) (es.map LAt.plain) a = F
  have hFF := hid_in hF
  have hNE := hid_in hne
  clear hF hne
  go_enter Tryz.func124, Tryz.ntmps124
  go_wp2_with (go_at_call 151; refine HF.mono ?_)
  rintro e w2 ⟨b2, ⟨hn, rfl⟩ | ⟨r, hrL, hn, rfl⟩⟩
  · have HA := hid_in ((lineFault_key (es := es.map LAt.plain) hn).trans hFF.out)
    have b3 : Below w.heap.size w (w2.alloc (.cells #[.string ⟨#[]⟩, .slice none 0 0, .bool false, .slice none 0 0] 94)) := (b0.trans (b2.mono (by simp))).alloc (Nat.le_trans b0.size b2.size) _
    clear HF hr hn hsm hes hx hst hrA hew hxs hc0
    go_wp2
    go_ret
    exact ⟨ret_int HA.out, b3⟩
  · obtain ⟨D, T, rfl⟩ := List.append_of_mem hrL
    have hr2 := (RulesAt.rm hrA).below b2
    have o1 := hr2.args
    have o2 := hr2.defs
    have hsp := hsm.2 r.plain (by simp)
    have hFa := fun h => (lineFault_args (es := es.map LAt.plain) hn h).trans hFF.out
    have hFb := fun D' T' (x : LAt) (e : es = D' ++ x :: T') hf hk hw => (seen_twice (R := (D ++ r :: T).map RAt.plain) (D := D') (T := T') (r := x) hn hf hk hw).trans (e ▸ hFF.out)
    have hFc := fun c (h : SeenTo r.plain.2.2.1 es a es.length c) hf => (h.fault hn hf).trans hFF.out
    obtain ⟨rk, va, ns, many, vd, ds⟩ := r
    simp only [RAt.plain] at o1 o2 hsp hFa hFb hFc
    generalize hns : ns.length = p at o1 hsp
    generalize hds : ds.length = q at o2
    obtain ⟨bo, ca, rfl, _⟩ := own_form o1
    obtain ⟨co, cb, rfl, _⟩ := own_form o2
    have b2' : Below (w.heap.size + 1) (w.alloc (.cells #[.string a.key, .slice aw nw cw] 63)) w2 := by rw [← size_alloc']; exact b2
    have b02 : Below w.heap.size w w2 := b0.trans (b2.mono (by simp))
    have hlt5 : w.heap.size < w2.heap.size := by have := b2'.size; rw [size_alloc'] at this; omega
    have b3 := b02.alloc b02.size (.cells #[.string rk, .slice bo p ca, .bool many, .slice co q cb] 94)
    have g3 : Below w2.heap.size w2 (w2.alloc (.cells #[.string rk, .slice bo p ca, .bool many, .slice co q cb] 94)) := (Below.refl _ _).alloc (Nat.le_refl _) _
    have p0 := (g3.cell (p := ⟨w.heap.size, 0, none⟩) hlt5).trans (box_there b2' 0)
    have p1 := (g3.cell (p := ⟨w.heap.size, 1, none⟩) hlt5).trans (box_there b2' 1)
    have q2 := one_box (w := w2) (cs := #[.string rk, .slice bo p ca, .bool many, .slice co q cb]) (T := 94) 2
    have q3 := size_alloc' w2 (.cells #[.string rk, .slice bo p ca, .bool many, .slice co q cb] 94)
    simp only [List.getElem?_toArray, List.getElem?_cons_zero, List.getElem?_cons_succ] at p0 p1 q2
    have HT := ruleTakes_any (key := rk) (many := many) (bo := co) (m := q) (cb := cb) (o1.alloc (.cells #[.string rk, .slice bo p ca, .bool many, .slice co q cb] 94)) (hx.below b3) (by have := hsp.1; omega) hxl hsp.2 hxs (hst.below b3)
    clear HF hr hr2 hn hsm hst hsp o1 o2 hrL hrA hc0 g3 b2 b2' hFF
    cases hf : fitsWords ns a.ws
    · have HA := hid_in (hFa hf)
      rw [hf] at HT
      clear hFa hFb hFc hes hx hew hxs
      go_wp2_with (go_at_call 152; refine HT.mono ?_; rintro e w4 ⟨rfl, b4⟩)
      go_ret
      exact ⟨ret_int HA.out, b3.trans (b4.mono b3.size)⟩
    · have hFb' := fun D' T' (x : LAt) e hk hw => hFb D' T' x e hf hk hw
      have hFc' := fun c h => hFc c h hf
      rw [hf] at HT
      clear hFa hFb hFc
      go_wp2_with (go_at_call 152; refine HT.mono ?_; rintro e w4 ⟨rfl, b4⟩)
      clear HT
      have b04 := b3.trans (b4.mono b3.size)
      have p0' := (b4.cell (p := ⟨w.heap.size, 0, none⟩) (by rw [q3]; exact Nat.lt_succ_of_lt hlt5)).trans p0
      have p1' := (b4.cell (p := ⟨w.heap.size, 1, none⟩) (by rw [q3]; exact Nat.lt_succ_of_lt hlt5)).trans p1
      have q2' := (b4.cell (p := ⟨w2.heap.size, 2, none⟩) (by rw [q3]; exact Nat.lt_succ_self _)).trans q2
      clear p0 p1 q2 q3 b3 b4
      go_loopw [9, 28] (fun sc i wr => ∃ j c : Nat, j ≤ ne ∧ c ≤ j ∧ i = .int .i64 (j : Int) ∧ sc = .int .i64 (c : Int) ∧ Below w4.heap.size w4 wr ∧ SeenTo many es a j c) (fun _ i _ => ne - (intOf i).toNat)
      case atStart => exact ⟨0, 0, by omega, by omega, rfl, rfl, Below.refl _ _, SeenTo.zero _ _ _⟩
      case round =>
        obtain ⟨j, c, hj, hcj, rfl, rfl, hbw, hA⟩ := hrel
        have b5 := b04.trans (hbw.mono b04.size)
        by_cases hlt : j < ne
        · obtain ⟨D', x, T', rfl, hD⟩ := split1 es j (by have := hNE.out; omega)
          obtain ⟨g, off, rfl, c1, c2⟩ := (hes.below b5).1.line
          have hxi := (hes.below b5).2 x (by simp)
          have hxw := hew x (by simp)
          obtain ⟨ax, cx, e1⟩ := hxi.form
          have hx5 := hx.below b5
          unfold LineIn at hxi
          rw [e1] at hxi c2
          have hTw := hFb' D' T' x rfl
          have l4 := World.block_lt_of_cell? w4 _ p0'
          have l5 := World.block_lt_of_cell? w4 _ q2'
          have g6 : Below wr.heap.size wr (wr.alloc (.cells #[.string x.key, .slice ax x.ws.length cx] 63)) := (Below.refl _ _).alloc (Nat.le_refl _) _
          have b6 := b5.trans (g6.mono b5.size)
          have b46 := hbw.trans (g6.mono hbw.size)
          have r0 := (b46.cell (p := ⟨w.heap.size, 0, none⟩) l4).trans p0'
          have r1 := (b46.cell (p := ⟨w.heap.size, 1, none⟩) l4).trans p1'
          have r2 := (b46.cell (p := ⟨w2.heap.size, 2, none⟩) l5).trans q2'
          have hxi6 := hxi.below g6
          have hx6 := hx5.below g6
          subst hD
          have hA1 := fun h => hA.other (r := x) h
          have hA2 := fun h1 h2 h3 => hA.count (r := x) h1 h2 h3
          have HE := slicesEqual_any hxi6 (show HasRow _ (.slice aw nw cw) a.ws.length 1 (strs a.ws) by rw [hnw]; exact hx6) hxw hxl
          clear hA hFb' hFc' hes hew hx hxs hx5 hx6 hxi hxi6 p0' p1' q2' l4 l5 g6
          generalize x.ws.length = nx at *
          generalize x.key = xk at *
          cases hk : (xk.toList == a.key.toList)
          · have HA := hA1 hk
            clear hA1 hA2 HE hTw
            go_wp2
            go_roundw
            case rel => exact ⟨D'.length + 1, c, by omega, by omega, by go_num, rfl, b46, HA⟩
            case measure => simp [intOf]; omega
          · cases many
            · have HA := hid_in (hTw hk rfl)
              clear hA1 hA2 HE hTw
              go_wp2
              go_ret
              exact ⟨ret_int HA.out, b6⟩
            · cases hd : decide (x.ws = a.ws)
              · have HA := hA2 hk rfl hd
                rw [hd] at HE
                clear hA1 hA2 hTw
                go_wp2_with (go_at_call 153; refine HE.mono ?_; rintro e w7 ⟨rfl, q7, rfl⟩)
                go_roundw
                case rel => exact ⟨D'.length + 1, c + 1, by omega, by omega, by go_num, by go_num, below_drewN b46 q7, HA⟩
                case measure => simp [intOf]; omega
              · have HA := hid_in (hTw hk (by rw [hd]; rfl))
                rw [hd] at HE
                clear hA1 hA2 hTw
                go_wp2_with (go_at_call 153; refine HE.mono ?_; rintro e w7 ⟨rfl, q7, rfl⟩)
                go_ret
                exact ⟨ret_int HA.out, below_drewN b6 q7⟩
        · obtain rfl : j = ne := by omega
          have hA' := hFc' c (by rw [hNE.out]; exact hA)
          clear hA hFb' hFc' hes hew hx hxs p0' p1' q2'
          by_cases h10 : 10 ≤ c
          · rw [if_pos h10] at hA'
            have HA := hid_in hA'
            clear hA'
            go_wp2
            go_ret
            exact ⟨ret_int HA.out, b5⟩
          · rw [if_neg h10] at hA'
            have HA := hid_in hA'
            clear hA'
            go_wp2
            go_ret
            exact ⟨ret_int HA.out, b5⟩
end Go.Proofs.YtlaejmehgaeobabGreatDoor
