import Derived.Test.YtpdahhnjhggocaaGreatDoorBun31
import Derived.Test.YtpdahhnjhggocaaGreatDoorBun28
import Derived.Test.YtpdahhnjhggocaaGreatDoorBun22
import Derived.Lib.SliceRun
namespace Go.Proofs.YtpdahhnjhggocaaGreatDoor
open Go.RowKit
theorem own_nil {w : World} {B : Nat} {e : TypeId} {size n : Nat} {xs : List Value} (hn : n = 0) (hx : xs.length = n * size) : w.ownsRow B e size (.slice none n 0) n xs := by
  subst hn
  have : xs = [] := by simpa using hx
  subst this
  exact World.ownsRow_nil _ _ _ _
theorem Mem.own1 {B : Nat} {w : World} {r : MRow} (h : r.isAt B w) : Mem B w [r] := ⟨fun s hs => by rw [List.mem_singleton.1 hs]; exact h, by simp⟩
theorem lines_push {B : Nat} {wc w2 w3 : World} {vk v3 : Value} {done : List LAt} {x : LAt} {cs : Array Value} {T : TypeId} (hm : LinesOwn B wc vk done) (hB : B ≤ wc.heap.size) (o2 : w2.ownsRow wc.heap.size 9 1 x.v x.ws.length (strs x.ws)) (b2 : Below wc.heap.size wc w2)
    (hown3 : w3.ownsRow B 115 2 v3 (done.length + 1) (done.flatMap LAt.cells ++ [.string x.key, x.v])) (hgrow : (w2.alloc (.cells cs T)).grownBy w3 vk.ownBlock) (hv : v3.ownBlock = vk.ownBlock ∨ v3.ownBlock = some (w2.alloc (.cells cs T)).heap.size) :
    LinesOwn B w3 v3 (done ++ [x]) ∧ Below B wc w3 := by
  have m2 : Mem B w2 ([x.row] ++ lrows vk done) := Mem.join hm (Mem.own1 o2) b2 hB
  have m3 : Mem B w2 (⟨vk, 115, 2, done.length, done.flatMap LAt.cells⟩ :: (done.map LAt.row ++ [x.row])) := m2.perm (by
    unfold lrows
    exact List.perm_append_comm)
  have ba := (Below.refl w2.heap.size w2).alloc (Nat.le_refl _) (.cells cs T)
  have m4 := m3.below ba
  have m5 := m4.grow (r' := ⟨v3, 115, 2, done.length + 1, done.flatMap LAt.cells ++ [.string x.key, x.v]⟩) hown3 hgrow hv
  refine ⟨?_, ?_⟩
  · unfold LinesOwn lrows
    rw [List.map_append, List.flatMap_append, List.length_append]
    exact m5
  · have hz := b2.size
    exact ((b2.mono hB).trans (ba.mono (by omega))).grown hgrow (by simp; omega) (fun k hk => (Mem.lt m3 (List.mem_cons_self ..) hk).1)
theorem blocks_push {B : Nat} {wc w2 w3 : World} {vk v3 : Value} {done : List BAt} {x : BAt} {cs : Array Value} {T : TypeId} (hm : BlocksOwn B wc vk done) (hB : B ≤ wc.heap.size) (o2 : LinesOwn wc.heap.size w2 x.v x.ls) (b2 : Below wc.heap.size wc w2)
    (hown3 : w3.ownsRow B 46 3 v3 (done.length + 1) (done.flatMap BAt.cells ++ [.string x.kind, .string x.name, x.v])) (hgrow : (w2.alloc (.cells cs T)).grownBy w3 vk.ownBlock) (hv : v3.ownBlock = vk.ownBlock ∨ v3.ownBlock = some (w2.alloc (.cells cs T)).heap.size) :
    BlocksOwn B w3 v3 (done ++ [x]) ∧ Below B wc w3 := by
  have m2 : Mem B w2 (x.rows ++ brows vk done) := Mem.join hm o2 b2 hB
  have m3 : Mem B w2 (⟨vk, 46, 3, done.length, done.flatMap BAt.cells⟩ :: (done.flatMap BAt.rows ++ x.rows)) := m2.perm (by
    unfold brows
    exact List.perm_append_comm)
  have ba := (Below.refl w2.heap.size w2).alloc (Nat.le_refl _) (.cells cs T)
  have m4 := m3.below ba
  have m5 := m4.grow (r' := ⟨v3, 46, 3, done.length + 1, done.flatMap BAt.cells ++ [.string x.kind, .string x.name, x.v]⟩) hown3 hgrow hv
  refine ⟨?_, ?_⟩
  · unfold BlocksOwn brows
    rw [List.flatMap_append, List.flatMap_append, List.length_append, List.flatMap_singleton, List.flatMap_singleton]
    exact m5
  · have hz := b2.size
    exact ((b2.mono hB).trans (ba.mono (by omega))).grown hgrow (by simp; omega) (fun k hk => (Mem.lt m3 (List.mem_cons_self ..) hk).1)
theorem lit_has (w : World) (cs : Array Value) (T : TypeId) (size : Nat) (hs : cs.size = size) : HasRow (w.alloc (.cells cs T)) (.slice (some ⟨w.heap.size, 0, none⟩) 1 1) 1 size cs.toList := own_has (World.ownsRow_lit (base := w.heap.size) (e := T) (size := size) w cs 1 (Nat.le_refl _) (by decide) (by omega))
end Go.Proofs.YtpdahhnjhggocaaGreatDoor
namespace Go.Proofs.YtpdahhnjhggocaaGreatDoor
open Go.RowKit
def HeadPost (bs : List BAt) (kind name : ByteArray) (e : Ending) : Prop := ((bs.map BAt.plain).find? (isHead kind name) = none ∧ e = .returned (.int .i64 (-1))) ∨ ∃ D b T, bs = D ++ b :: T ∧ (bs.map BAt.plain).find? (isHead kind name) = some b.plain ∧ e = .returned (.int .i64 (D.length : Int))
set_option maxHeartbeats 2000000 in
set_option maxRecDepth 100000 in
theorem l3Find_any {v : Value} {bs : List BAt} (kind name : ByteArray) {w : World} (h : BlocksIn w v bs) (hl : bs.length ≤ 1048576) : Calls Tryz.prog 52 #[.agg #[v], .string kind, .string name] w fun e w' => HeadPost bs kind name e ∧ Below w.heap.size w w' := by
  obtain ⟨ao, cap, rfl⟩ := h.1.form
  have G := (Below.refl w.heap.size w).alloc (Nat.le_refl _) (.cells #[.slice ao bs.length cap] 25)
  have k0 := one_box (w := w) (cs := #[.slice ao bs.length cap]) (T := 25) 0
  simp only [List.getElem?_toArray, List.getElem?_cons_zero] at k0
  have h1 := h.below G
  clear h
  generalize hn : bs.length = n at *
  have en := hid_in hn
  clear hn
  go_enter Tryz.func52, Tryz.ntmps52
  go_wp2
  go_loop [7] (fun i => ∃ j : Nat, j ≤ n ∧ i = .int .i64 (j : Int) ∧ NoHead (bs.map BAt.plain) kind name j) (fun i => n - (intOf i).toNat)
  case atStart => exact ⟨0, by omega, rfl, NoHead.zero _ _ _⟩
  case round =>
    obtain ⟨j, hj, rfl, hA⟩ := hrel
    by_cases hlt : j < n
    · obtain ⟨D, x, T, rfl, hD⟩ := split1 bs j (by have := en.out; omega)
      obtain ⟨g, off, rfl, c1, c2, c3⟩ := h1.1.block
      have hA2 : NoHead (D.map BAt.plain ++ x.plain :: T.map BAt.plain) kind name (D.map BAt.plain).length := by rw [List.length_map, hD]; simpa using hA
      have hyes := hid_in (show isHead kind name x.plain = true → HeadPost (D ++ x :: T) kind name (.returned (.int .i64 (j : Int))) from fun hh => .inr ⟨D, x, T, rfl, by simpa using hA2.hit hh, by rw [hD]⟩)
      have hno := hid_in (show isHead kind name x.plain = false → NoHead ((D ++ x :: T).map BAt.plain) kind name (j + 1) from fun hh => by have := hA2.succ hh; rw [List.length_map, hD] at this; simpa using this)
      rw [hD] at c1 c2 c3
      have hd : isHead kind name x.plain = ((x.kind.toList == kind.toList) && (x.name.toList == name.toList)) := rfl
      rw [hd] at hyes hno
      have hB0 : (0 : Int) ≤ (j : Int) := by omega
      have hB1 : (j : Int) < (n : Int) := by omega
      clear h1 hA hA2 hd hD en
      generalize x.kind = xk at *
      generalize x.name = xn at *
      cases h1 : (xk.toList == kind.toList)
      · have HN := hid_in (hno.out (by rw [h1]; rfl))
        clear hyes hno
        go_wp2
        go_round
        case rel => exact ⟨j + 1, by omega, by go_num, HN.out⟩
        case measure => simp [intOf]; omega
      · cases h2 : (xn.toList == name.toList)
        · have HN := hid_in (hno.out (by rw [h1, h2]; rfl))
          clear hyes hno
          go_wp2
          go_round
          case rel => exact ⟨j + 1, by omega, by go_num, HN.out⟩
          case measure => simp [intOf]; omega
        · have HN := hid_in (hyes.out (by rw [h1, h2]; rfl))
          clear hyes hno
          go_wp2
          go_ret
          exact ⟨HN.out, G⟩
    · obtain rfl : j = n := by omega
      have HN := hid_in (show HeadPost bs kind name (.returned (.int .i64 (-1))) from .inl ⟨NoHead.none (by rw [List.length_map, en.out]; exact hA), rfl⟩)
      clear h1 hA
      go_wp2
      go_ret
      exact ⟨HN.out, G⟩
theorem two_cells {w W : World} {g o1 o2 : Nat} {u1 u2 : Value} (hb : Below w.heap.size w W) (c1 : w.cell? ⟨g, o1, none⟩ = some u1) (c2 : w.cell? ⟨g, o2, none⟩ = some u2) : W.cell? ⟨g, o1, none⟩ = some u1 ∧ W.cell? ⟨g, o2, none⟩ = some u2 :=
  ⟨(hb.cell (World.block_lt_of_cell? _ _ c1)).trans c1, (hb.cell (World.block_lt_of_cell? _ _ c2)).trans c2⟩
set_option maxHeartbeats 4000000 in
set_option maxRecDepth 100000 in
theorem l3Lines_any {v : Value} {ls : List LAt} {w : World} (h : LinesIn w v ls) (hs : LinesSmall ls) : Calls Tryz.prog 97 #[v] w fun e w' => ∃ v' ls', e = .returned v' ∧ ls'.map LAt.plain = ls.map LAt.plain ∧ LinesOwn w.heap.size w' v' ls' ∧ Below w.heap.size w w' := by
  obtain ⟨ao, cap, rfl⟩ := h.1.form
  have hl := hs.1
  generalize hn : ls.length = len at *
  have en := hid_in hn
  clear hn
  obtain ⟨i0, hi, hz0, hz1, hz2⟩ := info_parts infoLine
  obtain ⟨j0, hj9, hy0, hy1, hy2⟩ := info_parts info9
  have b0 := (Below.refl w.heap.size w).alloc (Nat.le_refl _) (.cells #[] 115)
  have hown0 := World.ownsRow_lit (base := w.heap.size) (e := 115) (size := 2) w #[] 0 (Nat.le_refl _) (by decide) rfl
  go_enter Tryz.func97, Tryz.ntmps97
  go_wp2
  go_loopw [3, 4] (fun q i wr => ∃ (j : Nat) (done : List LAt), j ≤ len ∧ i = .int .i64 (j : Int) ∧ done.map LAt.plain = (ls.take j).map LAt.plain ∧ LinesOwn w.heap.size wr q done ∧ Below w.heap.size w wr) (fun _ i _ => len - (intOf i).toNat)
  case atStart => exact ⟨0, [], by omega, rfl, by simp, Mem.own1 hown0, b0⟩
  case round =>
    obtain ⟨j, done, hj, rfl, hdn, hm, bw⟩ := hrel
    obtain ⟨qa, qc, rfl, _⟩ := own_form hm.row
    have hdl : done.length = j := by have := congrArg List.length hdn; simp at this; have := en.out; omega
    subst hdl
    by_cases hlt : done.length < len
    · obtain ⟨D, x, T, e0, hD⟩ := split1 ls done.length (by have := en.out; omega)
      have hxm : x ∈ ls := by rw [e0]; simp
      have h6 := h
      rw [e0] at h6
      obtain ⟨g, off, rfl, C1, C2⟩ := h6.1.line
      obtain ⟨ax, cx, e1⟩ := HasRow.form (h.2 x hxm)
      have hstep := hid_in (show ∀ v', (done ++ [⟨x.key, v', x.ws⟩] : List LAt).map LAt.plain = (ls.take (done.length + 1)).map LAt.plain from by
        intro v'
        rw [List.map_append, hdn, e0, ← hD, take_front, take_one, List.map_append]; rfl)
      have hx0 := h.2 x hxm
      unfold LineIn at hx0
      rw [e1] at hx0 C2
      rw [hD] at C1 C2
      have hone := strs_one x.ws
      have hnx : x.ws.length ≤ 1048576 := (hs.2 x hxm).1
      have hszw := bw.size
      have bwd := bw.drew
      have bwa := bwd.alloc hszw (.cells #[] 9)
      have hrow := hid_in (hx0.below bwa)
      have hownS := World.ownsRow_lit (base := wr.heap.size) (e := 9) (size := 1) wr.drew #[] 0 (Nat.le_refl _) (by decide) rfl
      have HB2 := hid_in (show ∀ w2, (wr.drew.alloc (.cells #[] 9)).grownBy w2 (some wr.heap.size) → Below wr.heap.size wr.drew w2 from fun w2 g2 => ((Below.refl wr.heap.size wr.drew).alloc (Nat.le_refl _) _).grown g2 (by simp) (fun k hk => by cases hk; exact Nat.le_refl _))
      have hmd : LinesOwn w.heap.size wr.drew (.slice qa done.length qc) done := hm.below ((Below.refl wr.heap.size wr).drew)
      have HOUT := hid_in (show ∀ w2, Below wr.heap.size wr.drew w2 → ∀ cs, (w2.alloc (.cells cs 115)).ownsRow w.heap.size 115 2 (.slice qa done.length qc) done.length (done.flatMap LAt.cells) from fun w2 b2 cs => (own_below hmd.row b2).alloc _)
      have HMD := hid_in hmd
      have i1 : (0 : Int) ≤ (done.length : Int) := by omega
      have i2 : (done.length : Int) < (len : Int) := by omega
      have hS0 := two_cells bwd C1 C2
      have hS1 := two_cells bwa C1 C2
      obtain ⟨xk, xv, xw⟩ := x
      simp only at *
      generalize hWS : strs xw = WS at *
      generalize hnw : xw.length = nw at *
      have eWS := hid_in hWS
      have enw := hid_in hnw
      clear h h6 hs hdn hm hmd hx0 e0 e1 hD hxm hWS hnw hown0 b0
      go_wp2
      go_region_held3 (fun W => W.cell? ⟨g, off + done.length * 2, none⟩ = some (.string xk) ∧ W.cell? ⟨g, off + done.length * 2 + 1, none⟩ = some (.slice ax nw cx))
        (first | exact hS0 | exact hS1 | exact two_cells BW2 C1 C2 | exact two_cells BW2a C1 C2 | exact two_cells BW3 C1 C2)
        (first
          | (refine step_append_has (by rfl) _ _ 52 (by rfl) wr.heap.size 9 j0 (.string ⟨#[]⟩) 1 16 Tryz.underlying52 hj9 hy0 hy1 hy2 rfl (by decide) _ 0 [] (by rfl) hownS _ nw WS (by rfl) hrow.out hone (by unfold maxLen; omega) (by omega) (by simp) ?_
             intro ao1 cap1 w2 o2 g2 v2
             have B2 := HB2.out w2 g2
             have BW2 := bwd.trans (B2.mono hszw)
             have BW2a := BW2.alloc (Nat.le_trans hszw B2.size) (.cells #[.string xk, .slice ao1 nw cap1] 115))
          | (refine step_append_has (by rfl) _ _ 44 (by rfl) w.heap.size 115 i0 _ 2 40 Tryz.underlying44 hi hz0 hz1 hz2 rfl (by decide) _ done.length _ (by rfl) (HOUT.out w2 B2 _) _ 1 _ (by rfl) (lit_has w2 #[.string xk, .slice ao1 nw cap1] 115 2 rfl) (by intro y hy; simp at hy; rcases hy with rfl | rfl <;> rfl) (by unfold maxLen; omega) (by omega) (Nat.le_trans hszw (Nat.le_trans B2.size (by simp))) ?_
             intro ao3 cap3 w3 o3 g3 v3
             have P3 := lines_push (x := ⟨xk, .slice ao1 nw cap1, xw⟩) HMD.out hszw (by simp only [enw.out, eWS.out]; simpa using o2) B2 o3 g3 v3
             have BW3 := bwd.trans P3.2))
      have HST := hid_in (hstep.out (.slice ao1 nw cap1))
      clear hstep HOUT HMD HB2 hrow hownS o2 o3 g2 g3 v2 v3
      go_wp2
      go_roundw
      case rel => exact ⟨done.length + 1, _, by omega, by go_num, HST.out, P3.1, BW3⟩
      case measure => simp [intOf]; omega
    · have ej : done.length = len := by omega
      have hls : ls.take done.length = ls := by rw [ej, ← en.out, List.take_length]
      rw [hls] at hdn
      have HO := hid_in hm
      have HD := hid_in hdn
      have hlt' : ¬ ((done.length : Int) < (len : Int)) := by omega
      clear h hs hm hdn hls ej hown0 b0
      go_wp2
      go_ret
      first | exact ⟨_, done, rfl, HD.out, HO.out, bw⟩ | exact ⟨_, rfl, done, HD.out, HO.out, bw⟩
end Go.Proofs.YtpdahhnjhggocaaGreatDoor
