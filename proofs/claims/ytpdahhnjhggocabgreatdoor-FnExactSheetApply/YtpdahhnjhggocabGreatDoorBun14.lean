import Derived.Test.YtpdahhnjhggocabGreatDoorBun11
import Derived.MapKept
import Derived.WideMake
namespace Go.Proofs.YtpdahhnjhggocabGreatDoor
open Go.RowKit
theorem run_put {P : Program} {w : World} {mty kt et : TypeId} {r clock : Nat} {es : Array MapEntry} {s : ByteArray} {val : Value} (hm : P.underlying mty = some (.map kt et)) (hk : P.underlying kt = some .string) (hb : w.heap[r]? = some (.map es clock))
  (hf : Instr.findNow .string (.string s) es.toList 0 = some none) :
  (Instr.mapUpdate mty (.map (some r)) (.string s) val).run P w = .ok () { w with heap := w.heap.setIfInBounds r (.map (es.push { key := .string s, val := val, born := clock }) (clock + 1)) } := by
 have hc : (Instr.checkKey false 10000 kt (.string s)).run P w = .ok () w := MapKept.run_checkKey (k := .string s) hk (by simp [MapKept.IsKey]) false 9999
 simp [Instr.mapUpdate, run_underlying hm, MapKept.run_getObj_map hb, hc, MapKept.run_findKey hk hf, MapKept.run_setObj_map _ hb, Result.andThen]
theorem wpList_put {P : Program} (w : World) {ops : Array Oper} {rest : List Oper} {o : Oper} {a : Act} {Q : Exit → Act → World → Prop} (hg : o.guard = none) (m x v : Operand) (t : TypeId) (hop : o.op = Op.insert t m x v)
  (k e : TypeId) (ht : P.underlying t = some (.map k e)) (hk : P.underlying k = some .string) (r clock : Nat) (es : Array MapEntry) (s : ByteArray) (val : Value) (hm : a.eval m = .map (some r)) (hx : a.eval x = .string s) (hv : a.eval v = val)
  (hb : w.heap[r]? = some (.map es clock)) (hf : Instr.findNow .string (.string s) es.toList 0 = some none)
  (hK : ∀ w', w'.heap[r]? = some (.map (es.push { key := .string s, val := val, born := clock }) (clock + 1)) → w.grownBy w' (some r) → wpList P ops Q rest (a.put o.dst undef) w') : wpList P ops Q (o :: rest) a w := by
 refine wpList_plain hg fun K' hK' => ?_
 have hrun := run_put (val := val) ht hk hb hf
 unfold Oper.wp
 simp [execOp, hop, hm, hx, hv, hrun, Result.andThen]
 refine hK' _ _ (hK _ (MapKept.heap_set hb).1 ⟨rfl, rfl, rfl, by simp, fun j _ hj => (MapKept.heap_set hb).2 j (fun e => hj (by rw [e]))⟩)
theorem Mem.nilRow {B : Nat} {w : World} {L : List MRow} (h : Mem B w L) (e : TypeId) : Mem B w (⟨.slice none 0 0, e, 1, 0, []⟩ :: L) := by
 refine ⟨fun r hr => ?_, List.pairwise_cons.2 ⟨fun s _ => Or.inl rfl, h.2⟩⟩
 rcases List.mem_cons.1 hr with rfl | h1
 ·exact World.ownsRow_nil _ _ _ _
 ·exact h.1 r h1
theorem Acc.lit {w0 w : World} {L : List RAt} (h : Acc w0 w L) (K n m : Nat) (key : ByteArray) (ns : List Int) (ds : List (List UInt8)) (A D : Array Value) (hK : w.heap.size = K) (hA : A.toList = intsV ns) (hD : D.toList = strs ds) (hn : ns.length = n) (hm : ds.length = m) (h1 : n ≤ 100) (h2 : m ≤ 100) :
  Acc w0 ((w.alloc (.cells A 3)).alloc (.cells D 9)) (⟨key, .slice (some ⟨K, 0, none⟩) n n, ns, false, .slice (some ⟨K + 1, 0, none⟩) m m, ds⟩ :: L) := by
 subst hK hn hm
 have hb := (Below.refl w.heap.size w).alloc (Nat.le_refl _) (.cells A 3)
 have hb2 := hb.alloc hb.size (.cells D 9)
 have o1 := World.ownsRow_lit (base := w.heap.size) (e := 3) (size := 1) w A ns.length (Nat.le_refl _) (by unfold maxLen; omega) (by rw [← Array.length_toList, hA, intsV_length]; omega)
 have o2 := World.ownsRow_lit (base := w.heap.size) (e := 9) (size := 1) (w.alloc (.cells A 3)) D ds.length (by simp) (by unfold maxLen; omega) (by rw [← Array.length_toList, hD, strs_length]; omega)
 rw [hA] at o1
 rw [hD, World.size_alloc] at o2
 have hm1 : Mem w.heap.size (w.alloc (.cells A 3)) [⟨.slice (some ⟨w.heap.size, 0, none⟩) ns.length ns.length, 3, 1, ns.length, intsV ns⟩] := (Mem.nil _ w).cons o1 hb (Nat.le_refl _)
 have hm2 := (hm1.cons (r := ⟨.slice (some ⟨w.heap.size + 1, 0, none⟩) ds.length ds.length, 9, 1, ds.length, strs ds⟩) (w' := (w.alloc (.cells A 3)).alloc (.cells D 9))
  (World.ownsRow_lit (base := (w.alloc (.cells A 3)).heap.size) (e := 9) (size := 1) (w.alloc (.cells A 3)) D ds.length (Nat.le_refl _) (by unfold maxLen; omega) (by rw [← Array.length_toList, hD, strs_length]; omega) |> fun h => by rw [hD, World.size_alloc] at h; unfold MRow.isAt; rw [World.size_alloc]; exact h)
  ((Below.refl _ _).alloc (Nat.le_refl _) _) (by simp)).perm (List.Perm.swap _ _ _)
 exact h.call key false ⟨hm2, rfl, rfl⟩ hb2
theorem Acc.litMany {w0 w : World} {L : List RAt} (h : Acc w0 w L) (K n : Nat) (key : ByteArray) (ns : List Int) (A : Array Value) (hK : w.heap.size = K) (hA : A.toList = intsV ns) (hn : ns.length = n) (h1 : n ≤ 100) :
  Acc w0 (w.alloc (.cells A 3)) (⟨key, .slice (some ⟨K, 0, none⟩) n n, ns, true, .slice none 0 0, []⟩ :: L) := by
 subst hK hn
 have hb := (Below.refl w.heap.size w).alloc (Nat.le_refl _) (.cells A 3)
 have o1 := World.ownsRow_lit (base := w.heap.size) (e := 3) (size := 1) w A ns.length (Nat.le_refl _) (by unfold maxLen; omega) (by rw [← Array.length_toList, hA, intsV_length]; omega)
 rw [hA] at o1
 have hm1 : Mem w.heap.size (w.alloc (.cells A 3)) [⟨.slice (some ⟨w.heap.size, 0, none⟩) ns.length ns.length, 3, 1, ns.length, intsV ns⟩] := (Mem.nil _ w).cons o1 hb (Nat.le_refl _)
 exact h.call key true ⟨(hm1.nilRow 9).perm (List.Perm.swap _ _ _), rfl, rfl⟩ hb
theorem Acc.doneAt {w0 w : World} {L : List RAt} (h : Acc w0 w L) (K : Nat) (cs : Array Value) (n : Nat) (hK : w.heap.size = K) (hn : L.length = n) (hc : cs.toList = L.reverse.flatMap RAt.cells) (h0 : n ≤ 100) :
  RulesAt w0.heap.size (w.alloc (.cells cs 105)) (.slice (some ⟨K, 0, none⟩) n n) L.reverse ∧ Below w0.heap.size w0 (w.alloc (.cells cs 105)) := by
 subst hK; exact h.done cs n hn hc h0
theorem Mem.keptBy {B r : Nat} {w w' : World} {L : List MRow} (h : Mem B w L) (hg : w.grownBy w' (some r)) (hr : r < B) : Mem B w' L :=
 ⟨fun x hx => World.ownsRow.kept (h.1 x hx) hg (by
   cases hv : x.v.ownBlock with
   | none => exact Or.inl rfl
   | some g => exact Or.inr (fun e => by have := (h.lt hx hv).1; have := Option.some.inj e; omega)), h.2⟩
theorem find_skip {s s' : ByteArray} (v : Value) (b i : Nat) (es : List MapEntry) (h : (s == s') = false) : Instr.findNow .string (.string s) ({ key := .string s', val := v, born := b } :: es) i = Instr.findNow .string (.string s) es (i + 1) := by
 simp [Instr.findNow, Instr.sameNow, h]
theorem find_hit {s s' : ByteArray} (v : Value) (b i : Nat) (es : List MapEntry) (h : (s == s') = true) : Instr.findNow .string (.string s) ({ key := .string s', val := v, born := b } :: es) i = some (some (i, v)) := by
 simp [Instr.findNow, Instr.sameNow, h]
theorem find_nil (s : ByteArray) (i : Nat) : Instr.findNow .string (.string s) [] i = some none := rfl
def TableAt (w : World) (e : Ending) (w' : World) : Prop :=
 ∃ vt Lt vb Lb vs Ls, e = .returned (.map (some w.heap.size)) ∧ w'.heap[w.heap.size]? = some (.map #[⟨.string ⟨#[116, 101, 97, 109]⟩, vt, 0⟩, ⟨.string ⟨#[98, 101, 114, 116, 104]⟩, vb, 1⟩, ⟨.string ⟨#[115, 101, 114, 118, 105, 99, 101]⟩, vs, 2⟩] 3) ∧
  (Lt.map RAt.plain = teamRules ∧ RulesAt w.heap.size w' vt Lt) ∧ (Lb.map RAt.plain = berthRules ∧ RulesAt w.heap.size w' vb Lb) ∧ (Ls.map RAt.plain = serviceRules ∧ RulesAt w.heap.size w' vs Ls) ∧ Below w.heap.size w w'
theorem ne_bt : ((⟨#[98, 101, 114, 116, 104]⟩ : ByteArray) == ⟨#[116, 101, 97, 109]⟩) = false := by decide
theorem ne_st : ((⟨#[115, 101, 114, 118, 105, 99, 101]⟩ : ByteArray) == ⟨#[116, 101, 97, 109]⟩) = false := by decide
theorem ne_sb : ((⟨#[115, 101, 114, 118, 105, 99, 101]⟩ : ByteArray) == ⟨#[98, 101, 114, 116, 104]⟩) = false := by decide
set_option maxHeartbeats 4000000 in
set_option maxRecDepth 100000 in
theorem ruleTable_any (w : World) : Calls Tryz.prog 122 #[] w fun e w' => TableAt w e w' := by
 have hmk := run_makeMap_plain (P := Tryz.prog) w 184
 have aT := ((Acc.nil (w.alloc (.map #[] 0))).lit (w.heap.size + 1) 1 1 ⟨#[99, 111, 112, 105, 101, 115]⟩ [1] [[49, 48, 48]] #[.int .i64 1] #[.string ⟨#[49, 48, 48]⟩] (by simp) rfl rfl rfl rfl (by decide) (by decide)).lit (w.heap.size + 1 + 1 + 1) 1 1 ⟨#[114, 111, 111, 109]⟩ [1] [[49, 48, 48, 48]] #[.int .i64 1] #[.string ⟨#[49, 48, 48, 48]⟩] (by simp) rfl rfl rfl rfl (by decide) (by decide)
 have dT := aT.doneAt (w.heap.size + 1 + 1 + 1 + 1 + 1) #[.string ⟨#[99, 111, 112, 105, 101, 115]⟩, .slice (some ⟨w.heap.size + 1, 0, none⟩) 1 1, .bool false, .slice (some ⟨w.heap.size + 1 + 1, 0, none⟩) 1 1, .string ⟨#[114, 111, 111, 109]⟩, .slice (some ⟨w.heap.size + 1 + 1 + 1, 0, none⟩) 1 1, .bool false, .slice (some ⟨w.heap.size + 1 + 1 + 1 + 1, 0, none⟩) 1 1] 2 (by simp) rfl rfl (by decide)
 have hbT := (dT.2.block w.heap.size (by simp)).trans (heap_alloc_new w (.map #[] 0))
 go_enter Tryz.func122, Tryz.ntmps122
 go_wp2_with (with_reducible show wpList _ _ _ (Oper.mk _ (Op.insert _ _ _ _) _ _ _ _ :: _) _ _; refine wpList_put _ rfl _ _ _ _ rfl 9 85 Tryz.underlying184 Tryz.underlying9 w.heap.size 0 #[] _ _ rfl rfl rfl hbT rfl ?_)
 intro w1 hm1 hg1
 have rT := (show Mem _ _ _ from dT.1).keptBy hg1 (by simp)
 have bT := ((Below.refl w.heap.size w).alloc (Nat.le_refl _) (.map #[] 0)).trans ((dT.2.mono (by simp)).grown hg1 (Nat.le_trans (by simp) dT.2.size) (fun k hk => by cases hk; exact Nat.le_refl _))
 have zT : w.heap.size < w1.heap.size := (Array.getElem?_eq_some_iff.1 hm1).1
 clear hbT dT aT hg1 hmk
 have aB := ((((Acc.nil w1).lit (w1.heap.size) 1 1 ⟨#[122, 111, 110, 101]⟩ [3] [[122]] #[.int .i64 3] #[.string ⟨#[122]⟩] (by simp) rfl rfl rfl rfl (by decide) (by decide)).lit (w1.heap.size + 1 + 1) 1 1 ⟨#[114, 111, 111, 109]⟩ [1] [[49, 48, 48]] #[.int .i64 1] #[.string ⟨#[49, 48, 48]⟩] (by simp) rfl rfl rfl rfl (by decide) (by decide)).lit (w1.heap.size + 1 + 1 + 1 + 1) 1 1 ⟨#[104, 111, 108, 100]⟩ [1] [[49, 48, 48]] #[.int .i64 1] #[.string ⟨#[49, 48, 48]⟩] (by simp) rfl rfl rfl rfl (by decide) (by decide)).litMany (w1.heap.size + 1 + 1 + 1 + 1 + 1 + 1) 1 ⟨#[109, 97, 114, 107]⟩ [3] #[.int .i64 3] (by simp) rfl rfl (by decide)
 have dB := aB.doneAt (w1.heap.size + 1 + 1 + 1 + 1 + 1 + 1 + 1) #[.string ⟨#[122, 111, 110, 101]⟩, .slice (some ⟨w1.heap.size, 0, none⟩) 1 1, .bool false, .slice (some ⟨w1.heap.size + 1, 0, none⟩) 1 1, .string ⟨#[114, 111, 111, 109]⟩, .slice (some ⟨w1.heap.size + 1 + 1, 0, none⟩) 1 1, .bool false, .slice (some ⟨w1.heap.size + 1 + 1 + 1, 0, none⟩) 1 1, .string ⟨#[104, 111, 108, 100]⟩, .slice (some ⟨w1.heap.size + 1 + 1 + 1 + 1, 0, none⟩) 1 1, .bool false, .slice (some ⟨w1.heap.size + 1 + 1 + 1 + 1 + 1, 0, none⟩) 1 1, .string ⟨#[109, 97, 114, 107]⟩, .slice (some ⟨w1.heap.size + 1 + 1 + 1 + 1 + 1 + 1, 0, none⟩) 1 1, .bool true, .slice none 0 0] 4 (by simp) rfl rfl (by decide)
 have hbB := (dB.2.block w.heap.size zT).trans hm1
 go_wp2_with (with_reducible show wpList _ _ _ (Oper.mk _ (Op.insert _ _ _ _) _ _ _ _ :: _) _ _; refine wpList_put _ rfl _ _ _ _ rfl 9 85 Tryz.underlying184 Tryz.underlying9 w.heap.size 1 _ _ _ rfl rfl rfl hbB ((find_skip _ _ _ _ ne_bt).trans (find_nil _ _)) ?_)
 intro w2 hm2 hg2
 have rT2 := (rT.kept (grown_of_below dB.2 none)).keptBy hg2 (by simp)
 have rB := (show Mem _ _ _ from dB.1).keptBy hg2 zT
 have bB := bT.trans ((dB.2.mono (Nat.le_of_lt zT)).grown hg2 (Nat.le_trans (Nat.le_of_lt zT) dB.2.size) (fun k hk => by cases hk; exact Nat.le_refl _))
 have zB : w.heap.size < w2.heap.size := (Array.getElem?_eq_some_iff.1 hm2).1
 clear hbB dB aB hg2 rT bT hm1
 have aS := ((((((((((((Acc.nil w2).lit (w2.heap.size) 1 1 ⟨#[116, 101, 97, 109]⟩ [3] [[99, 111, 114, 101]] #[.int .i64 3] #[.string ⟨#[99, 111, 114, 101]⟩] (by simp) rfl rfl rfl rfl (by decide) (by decide)).lit (w2.heap.size + 1 + 1) 1 1 ⟨#[105, 109, 97, 103, 101]⟩ [1] [[49]] #[.int .i64 1] #[.string ⟨#[49]⟩] (by simp) rfl rfl rfl rfl (by decide) (by decide)).lit (w2.heap.size + 1 + 1 + 1 + 1) 1 1 ⟨#[119, 97, 110, 116]⟩ [1] [[49]] #[.int .i64 1] #[.string ⟨#[49]⟩] (by simp) rfl rfl rfl rfl (by decide) (by decide)).lit (w2.heap.size + 1 + 1 + 1 + 1 + 1 + 1) 1 1 ⟨#[100, 111, 119, 110]⟩ [1] [[49]] #[.int .i64 1] #[.string ⟨#[49]⟩] (by simp) rfl rfl rfl rfl (by decide) (by decide)).lit (w2.heap.size + 1 + 1 + 1 + 1 + 1 + 1 + 1 + 1) 1 1 ⟨#[111, 118, 101, 114]⟩ [1] [[48]] #[.int .i64 1] #[.string ⟨#[48]⟩] (by simp) rfl rfl rfl rfl (by decide) (by decide)).lit (w2.heap.size + 1 + 1 + 1 + 1 + 1 + 1 + 1 + 1 + 1 + 1) 2 2 ⟨#[110, 101, 101, 100, 115]⟩ [1, 1] [[49], [49]] #[.int .i64 1, .int .i64 1] #[.string ⟨#[49]⟩, .string ⟨#[49]⟩] (by simp) rfl rfl rfl rfl (by decide) (by decide)).lit (w2.heap.size + 1 + 1 + 1 + 1 + 1 + 1 + 1 + 1 + 1 + 1 + 1 + 1) 1 1 ⟨#[119, 104, 101, 114, 101]⟩ [4] [[]] #[.int .i64 4] #[.string ⟨#[]⟩] (by simp) rfl rfl rfl rfl (by decide) (by decide)).litMany (w2.heap.size + 1 + 1 + 1 + 1 + 1 + 1 + 1 + 1 + 1 + 1 + 1 + 1 + 1 + 1) 2 ⟨#[108, 105, 107, 101]⟩ [4, 2] #[.int .i64 4, .int .i64 2] (by simp) rfl rfl (by decide)).lit (w2.heap.size + 1 + 1 + 1 + 1 + 1 + 1 + 1 + 1 + 1 + 1 + 1 + 1 + 1 + 1 + 1) 1 1 ⟨#[97, 112, 97, 114, 116]⟩ [6] [[110, 111, 110, 101]] #[.int .i64 6] #[.string ⟨#[110, 111, 110, 101]⟩] (by simp) rfl rfl rfl rfl (by decide) (by decide)).lit (w2.heap.size + 1 + 1 + 1 + 1 + 1 + 1 + 1 + 1 + 1 + 1 + 1 + 1 + 1 + 1 + 1 + 1 + 1) 1 1 ⟨#[118, 111, 108, 117, 109, 101]⟩ [5] [[110, 111]] #[.int .i64 5] #[.string ⟨#[110, 111]⟩] (by simp) rfl rfl rfl rfl (by decide) (by decide)).lit (w2.heap.size + 1 + 1 + 1 + 1 + 1 + 1 + 1 + 1 + 1 + 1 + 1 + 1 + 1 + 1 + 1 + 1 + 1 + 1 + 1) 3 3 ⟨#[102, 111, 108, 108, 111, 119]⟩ [1, 1, 1] [[48], [48], [48]] #[.int .i64 1, .int .i64 1, .int .i64 1] #[.string ⟨#[48]⟩, .string ⟨#[48]⟩, .string ⟨#[48]⟩] (by simp) rfl rfl rfl rfl (by decide) (by decide)).lit (w2.heap.size + 1 + 1 + 1 + 1 + 1 + 1 + 1 + 1 + 1 + 1 + 1 + 1 + 1 + 1 + 1 + 1 + 1 + 1 + 1 + 1 + 1) 3 3 ⟨#[112, 97, 99, 101]⟩ [1, 1, 1] [[48], [48], [48]] #[.int .i64 1, .int .i64 1, .int .i64 1] #[.string ⟨#[48]⟩, .string ⟨#[48]⟩, .string ⟨#[48]⟩] (by simp) rfl rfl rfl rfl (by decide) (by decide)
 have dS := aS.doneAt (w2.heap.size + 1 + 1 + 1 + 1 + 1 + 1 + 1 + 1 + 1 + 1 + 1 + 1 + 1 + 1 + 1 + 1 + 1 + 1 + 1 + 1 + 1 + 1 + 1) #[.string ⟨#[116, 101, 97, 109]⟩, .slice (some ⟨w2.heap.size, 0, none⟩) 1 1, .bool false, .slice (some ⟨w2.heap.size + 1, 0, none⟩) 1 1, .string ⟨#[105, 109, 97, 103, 101]⟩, .slice (some ⟨w2.heap.size + 1 + 1, 0, none⟩) 1 1, .bool false, .slice (some ⟨w2.heap.size + 1 + 1 + 1, 0, none⟩) 1 1, .string ⟨#[119, 97, 110, 116]⟩, .slice (some ⟨w2.heap.size + 1 + 1 + 1 + 1, 0, none⟩) 1 1, .bool false, .slice (some ⟨w2.heap.size + 1 + 1 + 1 + 1 + 1, 0, none⟩) 1 1, .string ⟨#[100, 111, 119, 110]⟩, .slice (some ⟨w2.heap.size + 1 + 1 + 1 + 1 + 1 + 1, 0, none⟩) 1 1, .bool false, .slice (some ⟨w2.heap.size + 1 + 1 + 1 + 1 + 1 + 1 + 1, 0, none⟩) 1 1, .string ⟨#[111, 118, 101, 114]⟩, .slice (some ⟨w2.heap.size + 1 + 1 + 1 + 1 + 1 + 1 + 1 + 1, 0, none⟩) 1 1, .bool false, .slice (some ⟨w2.heap.size + 1 + 1 + 1 + 1 + 1 + 1 + 1 + 1 + 1, 0, none⟩) 1 1, .string ⟨#[110, 101, 101, 100, 115]⟩, .slice (some ⟨w2.heap.size + 1 + 1 + 1 + 1 + 1 + 1 + 1 + 1 + 1 + 1, 0, none⟩) 2 2, .bool false, .slice (some ⟨w2.heap.size + 1 + 1 + 1 + 1 + 1 + 1 + 1 + 1 + 1 + 1 + 1, 0, none⟩) 2 2, .string ⟨#[119, 104, 101, 114, 101]⟩, .slice (some ⟨w2.heap.size + 1 + 1 + 1 + 1 + 1 + 1 + 1 + 1 + 1 + 1 + 1 + 1, 0, none⟩) 1 1, .bool false, .slice (some ⟨w2.heap.size + 1 + 1 + 1 + 1 + 1 + 1 + 1 + 1 + 1 + 1 + 1 + 1 + 1, 0, none⟩) 1 1, .string ⟨#[108, 105, 107, 101]⟩, .slice (some ⟨w2.heap.size + 1 + 1 + 1 + 1 + 1 + 1 + 1 + 1 + 1 + 1 + 1 + 1 + 1 + 1, 0, none⟩) 2 2, .bool true, .slice none 0 0, .string ⟨#[97, 112, 97, 114, 116]⟩, .slice (some ⟨w2.heap.size + 1 + 1 + 1 + 1 + 1 + 1 + 1 + 1 + 1 + 1 + 1 + 1 + 1 + 1 + 1, 0, none⟩) 1 1, .bool false, .slice (some ⟨w2.heap.size + 1 + 1 + 1 + 1 + 1 + 1 + 1 + 1 + 1 + 1 + 1 + 1 + 1 + 1 + 1 + 1, 0, none⟩) 1 1, .string ⟨#[118, 111, 108, 117, 109, 101]⟩, .slice (some ⟨w2.heap.size + 1 + 1 + 1 + 1 + 1 + 1 + 1 + 1 + 1 + 1 + 1 + 1 + 1 + 1 + 1 + 1 + 1, 0, none⟩) 1 1, .bool false, .slice (some ⟨w2.heap.size + 1 + 1 + 1 + 1 + 1 + 1 + 1 + 1 + 1 + 1 + 1 + 1 + 1 + 1 + 1 + 1 + 1 + 1, 0, none⟩) 1 1, .string ⟨#[102, 111, 108, 108, 111, 119]⟩, .slice (some ⟨w2.heap.size + 1 + 1 + 1 + 1 + 1 + 1 + 1 + 1 + 1 + 1 + 1 + 1 + 1 + 1 + 1 + 1 + 1 + 1 + 1, 0, none⟩) 3 3, .bool false, .slice (some ⟨w2.heap.size + 1 + 1 + 1 + 1 + 1 + 1 + 1 + 1 + 1 + 1 + 1 + 1 + 1 + 1 + 1 + 1 + 1 + 1 + 1 + 1, 0, none⟩) 3 3, .string ⟨#[112, 97, 99, 101]⟩, .slice (some ⟨w2.heap.size + 1 + 1 + 1 + 1 + 1 + 1 + 1 + 1 + 1 + 1 + 1 + 1 + 1 + 1 + 1 + 1 + 1 + 1 + 1 + 1 + 1, 0, none⟩) 3 3, .bool false, .slice (some ⟨w2.heap.size + 1 + 1 + 1 + 1 + 1 + 1 + 1 + 1 + 1 + 1 + 1 + 1 + 1 + 1 + 1 + 1 + 1 + 1 + 1 + 1 + 1 + 1, 0, none⟩) 3 3] 12 (by simp) rfl rfl (by decide)
 have hbS := (dS.2.block w.heap.size zB).trans hm2
 go_wp2_with (with_reducible show wpList _ _ _ (Oper.mk _ (Op.insert _ _ _ _) _ _ _ _ :: _) _ _; refine wpList_put _ rfl _ _ _ _ rfl 9 85 Tryz.underlying184 Tryz.underlying9 w.heap.size 2 _ _ _ rfl rfl rfl hbS ((find_skip _ _ _ _ ne_st).trans ((find_skip _ _ _ _ ne_sb).trans (find_nil _ _))) ?_)
 intro w3 hm3 hg3
 have rT3 := (rT2.kept (grown_of_below dS.2 none)).keptBy hg3 (by simp)
 have rB3 := (rB.kept (grown_of_below dS.2 none)).keptBy hg3 zT
 have rS := (show Mem _ _ _ from dS.1).keptBy hg3 zB
 have bS := bB.trans ((dS.2.mono (Nat.le_of_lt zB)).grown hg3 (Nat.le_trans (Nat.le_of_lt zB) dS.2.size) (fun k hk => by cases hk; exact Nat.le_refl _))
 clear hbS dS aS hg3 rT2 rB bB hm2
 go_wp2
 go_ret
 exact ⟨_, _, _, _, _, _, rfl, hm3, ⟨rfl, rT3.mono (by simp)⟩, ⟨rfl, rB3.mono (Nat.le_of_lt zT)⟩, ⟨rfl, rS.mono (Nat.le_of_lt zB)⟩, bS⟩
end Go.Proofs.YtpdahhnjhggocabGreatDoor
namespace Go.Proofs.YtpdahhnjhggocabGreatDoor
open Go.RowKit
theorem run_find {P : Program} {w : World} {mty kt et : TypeId} {r clock : Nat} {es : Array MapEntry} {s : ByteArray} {i : Nat} {v : Value} (hm : P.underlying mty = some (.map kt et)) (hk : P.underlying kt = some .string) (hb : w.heap[r]? = some (.map es clock))
  (hf : Instr.findNow .string (.string s) es.toList 0 = some (some (i, v))) : (Instr.lookup mty (.map (some r)) (.string s) false).run P w = .ok v w := by
 have hc : (Instr.checkKey es.isEmpty 10000 kt (.string s)).run P w = .ok () w := MapKept.run_checkKey (k := .string s) hk (by simp [MapKept.IsKey]) _ 9999
 simp [Instr.lookup, run_underlying hm, MapKept.run_getObj_map hb, hc, MapKept.run_findKey hk hf, Result.andThen]
theorem run_find_not {P : Program} {w : World} {mty kt et : TypeId} {r clock : Nat} {es : Array MapEntry} {s : ByteArray} {z : Value} (hm : P.underlying mty = some (.map kt et)) (hk : P.underlying kt = some .string) (hz : (zeroValue et).run P w = .ok z w) (hb : w.heap[r]? = some (.map es clock))
  (hf : Instr.findNow .string (.string s) es.toList 0 = some none) : (Instr.lookup mty (.map (some r)) (.string s) false).run P w = .ok z w := by
 have hc : (Instr.checkKey es.isEmpty 10000 kt (.string s)).run P w = .ok () w := MapKept.run_checkKey (k := .string s) hk (by simp [MapKept.IsKey]) _ 9999
 simp [Instr.lookup, run_underlying hm, MapKept.run_getObj_map hb, hc, MapKept.run_findKey hk hf, hz, Result.andThen]
theorem same_bytes {s : ByteArray} {l : List UInt8} (h : s.toList = l) : (s == ⟨l.toArray⟩) = true := by
 rw [MapKept.bytes_beq]; apply ByteArray.ext; apply Array.toList_inj.1; rw [← ByteArray.toList_eq, h]
theorem other_bytes {s : ByteArray} {l : List UInt8} (h : ¬ s.toList = l) : (s == ⟨l.toArray⟩) = false := by
 rw [Bool.eq_false_iff]; intro e; rw [MapKept.bytes_beq] at e; subst e; exact h (by rw [ByteArray.toList_eq])
theorem zero_rules (w : World) : (zeroValue 85).run Tryz.prog w = .ok (.slice none 0 0) w := by simp [go_sem]
theorem rules_look (kind : ByteArray) (w w' : World) (e : Ending) (h : TableAt w e w') : ∃ v L, e = .returned (.map (some w.heap.size)) ∧ (Instr.lookup 184 (.map (some w.heap.size)) (.string kind) false).run Tryz.prog w' = .ok v w' ∧ L.map RAt.plain = rulesOf kind ∧ RulesAt w.heap.size w' v L ∧ Below w.heap.size w w' := by
 obtain ⟨vt, Lt, vb, Lb, vs, Ls, rfl, hm, ⟨pt, mt⟩, ⟨pb, mb⟩, ⟨ps, ms⟩, hb⟩ := h
 unfold rulesOf
 by_cases h1 : kind.toList = [116, 101, 97, 109]
 ·rw [if_pos h1]
  exact ⟨vt, Lt, rfl, run_find Tryz.underlying184 Tryz.underlying9 hm (find_hit _ _ _ _ (same_bytes h1)), pt, mt, hb⟩
 rw [if_neg h1]
 by_cases h2 : kind.toList = [98, 101, 114, 116, 104]
 ·rw [if_pos h2]
  exact ⟨vb, Lb, rfl, run_find Tryz.underlying184 Tryz.underlying9 hm ((find_skip _ _ _ _ (other_bytes h1)).trans (find_hit _ _ _ _ (same_bytes h2))), pb, mb, hb⟩
 rw [if_neg h2]
 by_cases h3 : kind.toList = [115, 101, 114, 118, 105, 99, 101]
 ·rw [if_pos h3]
  exact ⟨vs, Ls, rfl, run_find Tryz.underlying184 Tryz.underlying9 hm ((find_skip _ _ _ _ (other_bytes h1)).trans ((find_skip _ _ _ _ (other_bytes h2)).trans (find_hit _ _ _ _ (same_bytes h3)))), ps, ms, hb⟩
 rw [if_neg h3]
 exact ⟨_, [], rfl, run_find_not Tryz.underlying184 Tryz.underlying9 (zero_rules w') hm ((find_skip _ _ _ _ (other_bytes h1)).trans ((find_skip _ _ _ _ (other_bytes h2)).trans ((find_skip _ _ _ _ (other_bytes h3)).trans (find_nil _ _)))), rfl,
  ⟨fun r hr => by rw [List.mem_singleton.1 hr]; exact World.ownsRow_nil _ _ _ _, by simp⟩, hb⟩
set_option maxHeartbeats 1000000 in
set_option maxRecDepth 100000 in
theorem implRules_any (kind : ByteArray) (w : World) : Calls Tryz.prog 54 #[.string kind] w fun e w' => RulesPost (rulesOf kind) w e w' := by
 go_enter Tryz.func54, Tryz.ntmps54
 go_wp2_with (go_at_call 122; refine (ruleTable_any w).mono ?_)
 intro e w1 h
 obtain ⟨v, L, rfl, hlk, hp, hr, hb⟩ := rules_look kind w w1 e h
 clear h
 go_wp2
 go_ret
 exact ⟨v, L, rfl, hp, hr, hb⟩
end Go.Proofs.YtpdahhnjhggocabGreatDoor
