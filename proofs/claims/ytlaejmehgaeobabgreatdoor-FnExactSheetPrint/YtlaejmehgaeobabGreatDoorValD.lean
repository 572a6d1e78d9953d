import Derived.Test.YtlaejmehgaeobabGreatDoorValC
namespace Go.Proofs.YtlaejmehgaeobabGreatDoor
open Go.RowKit
/-- None of the first k blocks has this kind and name. -/
def NoBlockTo (bs : List BAt) (kind name : ByteArray) (k : Nat) : Prop := ∀ b ∈ bs.take k, (b.kind.toList == kind.toList && b.name.toList == name.toList) = false
theorem NoBlockTo.zero (bs : List BAt) (kind name : ByteArray) : NoBlockTo bs kind name 0 := by simp [NoBlockTo]
theorem NoBlockTo.succ {D T : List BAt} {r : BAt} {kind name : ByteArray} (h : NoBlockTo (D ++ r :: T) kind name D.length) (hr : (r.kind.toList == kind.toList && r.name.toList == name.toList) = false) : NoBlockTo (D ++ r :: T) kind name (D.length + 1) := by
  unfold NoBlockTo at *
  rw [List.take_append_of_le_length (Nat.le_refl _), List.take_length] at h
  rw [List.take_append, List.take_of_length_le (by omega), show D.length + 1 - D.length = 1 from by omega]
  intro s hs
  simp only [List.take_succ_cons, List.take_zero, List.mem_append, List.mem_singleton] at hs
  rcases hs with hs | rfl
  · exact h s hs
  · exact hr
theorem headFault_kind {es : List PBlock} {kind name : ByteArray} (h : (rulesOf kind).length = 0) : (3 : Int) = headFault es kind name := by unfold headFault; rw [if_pos h]
theorem headFault_name {es : List PBlock} {kind name : ByteArray} (h : ¬ (rulesOf kind).length = 0) (h2 : nameB name.data.toList = false) : (4 : Int) = headFault es kind name := by unfold headFault; rw [if_neg h, if_pos h2]
theorem headFault_again {es : List PBlock} {kind name : ByteArray} (h : ¬ (rulesOf kind).length = 0) (h2 : nameB name.data.toList = true) {o : PBlock} (ho : o ∈ es) (h3 : (o.kind.toList == kind.toList && o.name.toList == name.toList) = true) : (9 : Int) = headFault es kind name := by
  unfold headFault
  rw [if_neg h, if_neg (by simp [h2]), if_pos]
  rw [List.any_eq_true]; exact ⟨o, ho, h3⟩
theorem NoBlockTo.fault {bs : List BAt} {kind name : ByteArray} (h : ¬ (rulesOf kind).length = 0) (h2 : nameB name.data.toList = true) (h3 : NoBlockTo bs kind name bs.length) : (if 60 ≤ bs.length then (10 : Int) else 0) = headFault (bs.map BAt.plain) kind name := by
  unfold NoBlockTo at h3
  rw [List.take_length] at h3
  have hany : (bs.map BAt.plain).any (fun o => o.kind.toList == kind.toList && o.name.toList == name.toList) = false := by
    rw [List.any_eq_false]
    intro o ho
    obtain ⟨b, hb, rfl⟩ := List.mem_map.1 ho
    rw [show (b.plain.kind.toList == kind.toList && b.plain.name.toList == name.toList) = false from h3 b hb]
    decide
  unfold headFault
  symm
  rw [if_neg h, if_neg (by simp [h2]), hany, if_neg (by decide), List.length_map]
set_option maxHeartbeats 2000000 in
set_option maxRecDepth 100000 in
theorem headFault_any {v : Value} {bs : List BAt} (kind name : ByteArray) {w : World} (hb : BlocksIn w v bs) (hl : bs.length ≤ 1048576) (hn : name.size ≤ 1048576) : Calls Tryz.prog 73 #[v, .string kind, .string name] w fun e w' => e = .returned (.int .i64 (headFault (bs.map BAt.plain) kind name)) ∧ Below w.heap.size w w' := by
  obtain ⟨ao, cap, rfl⟩ := hb.1.form
  generalize hPL : bs.map BAt.plain = PL
  have hP := hid_in hPL
  generalize hnn : bs.length = n at *
  have hN := hid_in hnn
  clear hnn hPL
  have HS := implRules_any kind w
  have HI := fun W => isName_any name W hn
  by_cases hR : (rulesOf kind).length = 0
  · have HF := hid_in (headFault_kind (es := PL) (name := name) hR)
    generalize headFault PL kind name = F at *
    go_enter Tryz.func73, Tryz.ntmps73
    go_wp2_with (go_at_call 25; refine HS.mono ?_)
    rintro e w1 ⟨vr, L, rfl, hp, hr, b1⟩
    obtain ⟨ar, cr, rfl, _⟩ := own_form (show w1.ownsRow w.heap.size 94 4 vr L.length (L.flatMap RAt.cells) from Mem.head hr)
    have hL0 : L.length = 0 := by rw [← hp, List.length_map] at hR; exact hR
    generalize L.length = m at *
    subst hL0
    clear HS hr hp hR hb
    go_wp2
    go_ret
    exact ⟨ret_int HF.out, b1⟩
  have hRp : Hid (¬ (rulesOf kind).length = 0) := hid_in hR
  cases hnm : nameB name.data.toList
  · have HF := hid_in (headFault_name (es := PL) hR hnm)
    rw [hnm] at HI
    generalize headFault PL kind name = F at *
    go_enter Tryz.func73, Tryz.ntmps73
    go_wp2_with (go_at_call 25; refine HS.mono ?_)
    rintro e w1 ⟨vr, L, rfl, hp, hr, b1⟩
    obtain ⟨ar, cr, rfl, _⟩ := own_form (show w1.ownsRow w.heap.size 94 4 vr L.length (L.flatMap RAt.cells) from Mem.head hr)
    have hL0 : ¬ L.length = 0 := by rw [← hp, List.length_map] at hR; exact hR
    generalize L.length = m at *
    have hm : ((m : Int) == 0) = false := by rw [beq_eq_false_iff_ne]; omega
    clear HS hr hp hR hb
    go_wp2_with (go_at_call 123; refine (HI _).mono ?_; rintro e w ⟨rfl, rfl⟩)
    go_ret
    exact ⟨ret_int HF.out, b1⟩
  · rw [hnm] at HI
    have hF := fun (h : NoBlockTo bs kind name bs.length) => NoBlockTo.fault hR hnm h
    have hG := fun (o : PBlock) (ho : o ∈ PL) (h3 : (o.kind.toList == kind.toList && o.name.toList == name.toList) = true) => headFault_again hR hnm ho h3
    rw [hP.out] at hF
    generalize headFault PL kind name = F at *
    go_enter Tryz.func73, Tryz.ntmps73
    go_wp2_with (go_at_call 25; refine HS.mono ?_)
    rintro e w1 ⟨vr, L, rfl, hp, hr, b1⟩
    obtain ⟨ar, cr, rfl, _⟩ := own_form (show w1.ownsRow w.heap.size 94 4 vr L.length (L.flatMap RAt.cells) from Mem.head hr)
    have hL0 : ¬ L.length = 0 := by rw [← hp, List.length_map] at hR; exact hR
    generalize L.length = m at *
    have hm : ((m : Int) == 0) = false := by rw [beq_eq_false_iff_ne]; omega
    clear HS hr hp hR hnm
    go_wp2_with (go_at_call 123; refine (HI _).mono ?_; rintro e w1 ⟨rfl, rfl⟩)
    clear HI
    go_loopw [18] (fun i wr => ∃ j : Nat, j ≤ n ∧ i = .int .i64 (j : Int) ∧ Below w.heap.size w wr ∧ NoBlockTo bs kind name j) (fun i _ => n - (intOf i).toNat)
    case atStart => exact ⟨0, by omega, rfl, b1, NoBlockTo.zero _ _ _⟩
    case round =>
      obtain ⟨j, hj, rfl, hbw, hA⟩ := hrel
      by_cases hlt : j < n
      · obtain ⟨D, r, T, rfl, hD⟩ := split1 bs j (by have := hN.out; omega)
        obtain ⟨g, off, rfl, c1, c2, c3⟩ := (hb.below hbw).1.block
        obtain ⟨a1, q1, e1⟩ := (hb.2 r (by simp)).1.form
        have hmem : r.plain ∈ PL := by rw [← hP.out]; simp
        have hgr := hG r.plain hmem
        rw [show r.plain.kind = r.kind from rfl, show r.plain.name = r.name from rfl] at hgr
        rw [e1] at c3
        subst hD
        have hsu := fun h => hA.succ (r := r) h
        generalize r.ls.length = nr at *
        generalize r.kind = rk at *
        generalize r.name = rn at *
        clear hA hb hF hG hmem
        have b2 := hbw.alloc hbw.size (.cells #[.string rk, .string rn, .slice a1 nr q1] 44)
        cases hk1 : (rk.toList == kind.toList)
        · have HA := hsu (by rw [hk1]; rfl)
          clear hsu hgr
          go_wp2
          go_roundw
          case rel => exact ⟨D.length + 1, by omega, by go_num, b2, HA⟩
          case measure => simp [intOf]; omega
        · cases hk2 : (rn.toList == name.toList)
          · have HA := hsu (by rw [hk1, hk2]; rfl)
            clear hsu hgr
            go_wp2
            go_roundw
            case rel => exact ⟨D.length + 1, by omega, by go_num, b2, HA⟩
            case measure => simp [intOf]; omega
          · have HA := hid_in (hgr (by rw [hk1, hk2]; rfl))
            clear hsu hgr
            go_wp2
            go_ret
            exact ⟨ret_int HA.out, b2⟩
      · obtain rfl : j = n := by omega
        have hA' := hF (by rw [hN.out]; exact hA)
        rw [hN.out] at hA'
        clear hA hb hF hG
        by_cases h60 : 60 ≤ j
        · rw [if_pos h60] at hA'
          have HA := hid_in hA'
          clear hA'
          go_wp2
          go_ret
          exact ⟨ret_int HA.out, hbw⟩
        · rw [if_neg h60] at hA'
          have HA := hid_in hA'
          clear hA'
          go_wp2
          go_ret
          exact ⟨ret_int HA.out, hbw⟩
end Go.Proofs.YtlaejmehgaeobabGreatDoor
