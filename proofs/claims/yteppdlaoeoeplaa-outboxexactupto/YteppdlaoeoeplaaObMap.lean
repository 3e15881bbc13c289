/-
  Ours: a map from numbers to notices.
-/
import Derived.Test.YteppdlaoeoeplaaObM
import Derived.Test.YteppdlaoeoeplaaFrmApp
import Derived.Maps.OwnSet
import Derived.Maps.RangeRun
import Derived.MapKept
namespace Go.Proofs.Yteppdlaoeoeplaa
open Go.RowKit ObM

def kI : Value → Int
  | .int _ x => x
  | _ => 0
structure MapIs (es : Array MapEntry) (clock : Nat) (L : List En) : Prop where
  st : MapKept.Stamped es clock
  each : ∀ e ∈ es.toList, e.key = .int .i64 (kI e.key)
  pm : (es.toList.map fun e => (kI e.key, e.val)).Perm (L.map fun e => (e.id, enV e))
def MapAt (b : Nat) (L : List En) (w : World) : Prop := ∃ es clock, w.heap[b]? = some (.map es clock) ∧ MapIs es clock L
theorem er_map {α β : Type} (f : α → β) : ∀ (l : List α) (j : Nat), (l.eraseIdx j).map f = (l.map f).eraseIdx j
  | [], _ => rfl
  | _ :: _, 0 => rfl
  | a :: l, j + 1 => by simp [er_map f l j]
theorem MapAt.lt {b : Nat} {L : List En} {w : World} (h : MapAt b L w) : b < w.heap.size := by
  obtain ⟨es, c, h, _⟩ := h
  exact (Array.getElem?_eq_some_iff.1 h).1
theorem MapAt.same {b : Nat} {L : List En} {w w' : World} (h : MapAt b L w) (e : w'.heap[b]? = w.heap[b]?) : MapAt b L w' := by
  obtain ⟨es, c, h, m⟩ := h
  exact ⟨es, c, e.trans h, m⟩
theorem MapAt.perm {b : Nat} {L L' : List En} {w : World} (h : MapAt b L w) (p : L.Perm L') : MapAt b L' w := by
  obtain ⟨es, c, h, m⟩ := h
  exact ⟨es, c, h, m.st, m.each, m.pm.trans (p.map _)⟩
theorem MapAt.new (w : World) (c : Nat) : MapAt w.heap.size [] (w.alloc (.map #[] c)) :=
  ⟨#[], c, (MapKept.heap_alloc w _).1, MapKept.stamped_empty c, by simp, by simp⟩
theorem MapIs.len {es : Array MapEntry} {c : Nat} {L : List En} (m : MapIs es c L) : es.size = L.length := by
  have := m.pm.length_eq
  simpa using this
theorem MapIs.keys {es : Array MapEntry} {c : Nat} {L : List En} (m : MapIs es c L) : (es.toList.map fun e => (kI e.key, e.val)).Pairwise (fun a b => a.1 ≠ b.1) := by
  have h := ((MapKept.stamped_iff es c).1 m.st).2.2
  rw [List.pairwise_map]
  refine List.Pairwise.imp_of_mem (fun {a b} ha hb h => ?_) h
  intro q
  apply h
  rw [m.each a ha, m.each b hb]
  exact congrArg _ q
/-- What stands under a key. -/
theorem MapIs.has {es : Array MapEntry} {c : Nat} {L : List En} (m : MapIs es c L) {e : MapEntry} (he : e ∈ es.toList) : ∃ x ∈ L, x.id = kI e.key ∧ e.val = enV x := by
  have : (kI e.key, e.val) ∈ L.map fun e => (e.id, enV e) := m.pm.mem_iff.1 (List.mem_map.2 ⟨e, he, rfl⟩)
  obtain ⟨x, hx, q⟩ := List.mem_map.1 this
  injection q with q1 q2
  exact ⟨x, hx, q1, q2.symm⟩
theorem MapIs.of {es : Array MapEntry} {c : Nat} {L : List En} (m : MapIs es c L) {x : En} (hx : x ∈ L) : ∃ e ∈ es.toList, e.key = .int .i64 x.id := by
  have : (x.id, enV x) ∈ es.toList.map fun e => (kI e.key, e.val) := m.pm.mem_iff.2 (List.mem_map.2 ⟨x, hx, rfl⟩)
  obtain ⟨e, he, q⟩ := List.mem_map.1 this
  injection q with q1 q2
  exact ⟨e, he, by rw [m.each e he, q1]⟩
theorem findI (k : Int) : ∀ (es : List MapEntry) (n : Nat), (∀ e ∈ es, e.key = .int .i64 (kI e.key)) →
    (Instr.findNow (.int .i64) (.int .i64 k) es n = some none ∧ ∀ e ∈ es, e.key ≠ .int .i64 k) ∨
    ∃ j e, Instr.findNow (.int .i64) (.int .i64 k) es n = some (some (n + j, e.val)) ∧ es[j]? = some e ∧ e.key = .int .i64 k
  | [], n, _ => .inl ⟨by simp [Instr.findNow], by simp⟩
  | e :: es, n, hall => by
    have hx := hall e (by simp)
    obtain ⟨x, hxk⟩ : ∃ x, kI e.key = x := ⟨_, rfl⟩
    rw [hxk] at hx
    by_cases hk : k = x
    · refine .inr ⟨0, e, ?_, by simp, by rw [hx, hk]⟩
      simp [Instr.findNow, Instr.sameNow, hx, hk]
    · have hne : e.key ≠ .int .i64 k := by rw [hx]; intro h; injection h with _ h; exact hk h.symm
      have hs : Instr.sameNow (.int .i64) (.int .i64 k) e.key = some false := by rw [hx]; simp [Instr.sameNow, hk]
      rcases findI k es (n + 1) (fun y hy => hall y (by simp [hy])) with ⟨h1, h2⟩ | ⟨j, e', h1, h2, h3⟩
      · refine .inl ⟨by simp [Instr.findNow, hs, h1], fun y hy => ?_⟩
        rcases List.mem_cons.1 hy with rfl | hy
        · exact hne
        · exact h2 y hy
      · exact .inr ⟨j + 1, e', by simp [Instr.findNow, hs, h1, Nat.add_assoc, Nat.add_comm 1 j], by simpa using h2, h3⟩
theorem underIE : Try.prog.underlying 51 = some (.map 3 78) := by kernel_rfl
theorem underInt : Try.prog.underlying 3 = some (.int .i64) := by kernel_rfl
def zEn : En := ⟨0, 0, 0, none, 0, 0, []⟩
theorem zeroEn (w : World) : (zeroValue 78).run Try.prog w = .ok (enV zEn) w := by kernel_rfl
theorem chkInt1 (em : Bool) (n : Nat) (x : Int) (w : World) : (Instr.checkKey em (n + 1) 3 (.int .i64 x)).run Try.prog w = .ok () w := by
  simp [Instr.checkKey, run_underlying underInt, Result.andThen]
theorem chkInt (em : Bool) (x : Int) (w : World) : (Instr.checkKey em 10000 3 (.int .i64 x)).run Try.prog w = .ok () w := chkInt1 em 9999 x w
theorem findKeyI (k : Int) (w : World) (es : List MapEntry) (r : Option (Nat × Value)) (h : Instr.findNow (.int .i64) (.int .i64 k) es 0 = some r) : (Instr.findKey 3 (.int .i64 k) es).run Try.prog w = .ok r w := by
  simp [Instr.findKey, run_underlying underInt, h, Result.andThen]
/-- The two ways of a search. -/
theorem MapIs.find {es : Array MapEntry} {c : Nat} {L : List En} (m : MapIs es c L) (hR : Rise L) (k : Int) :
    (Instr.findNow (.int .i64) (.int .i64 k) es.toList 0 = some none ∧ lk L k = none ∧ ∀ e ∈ es.toList, e.key ≠ .int .i64 k) ∨
    ∃ j e x, Instr.findNow (.int .i64) (.int .i64 k) es.toList 0 = some (some (j, enV x)) ∧ es.toList[j]? = some e ∧ e.key = .int .i64 k ∧ e.val = enV x ∧ lk L k = some x := by
  rcases findI k es.toList 0 m.each with ⟨h1, h2⟩ | ⟨j, e, h1, h2, h3⟩
  · refine .inl ⟨h1, ?_, h2⟩
    cases hl : lk L k with
    | none => rfl
    | some x =>
      obtain ⟨hx, hk⟩ := lk_some hl
      obtain ⟨e, he, q⟩ := m.of hx
      rw [hk] at q
      exact absurd q (h2 e he)
  · obtain ⟨x, hx, hk, hv⟩ := m.has (List.mem_of_getElem? h2)
    have : x.id = k := by rw [hk, h3]; rfl
    rw [Nat.zero_add, hv] at h1
    exact .inr ⟨j, e, x, h1, h2, h3, hv, this ▸ lk_of hR hx⟩
set_option maxRecDepth 20000 in
/-- 'e, there := m[k]'. -/
theorem MapAt.look2 {b : Nat} {L : List En} {w : World} (h : MapAt b L w) (hR : Rise L) (k : Int) :
    (Instr.lookup 51 (.map (some b)) (.int .i64 k) true).run Try.prog w = .ok (.tuple #[enV ((lk L k).getD zEn), .bool (lk L k).isSome]) w := by
  obtain ⟨es, c, hb, m⟩ := h
  rcases m.find hR k with ⟨h1, h2, _⟩ | ⟨j, e, x, h1, h2, h3, h4, h5⟩
  · simp [Instr.lookup, run_underlying underIE, MapKept.run_getObj_map hb, chkInt, findKeyI k w _ _ h1, Result.andThen, h2, zEn]
  · simp [Instr.lookup, run_underlying underIE, MapKept.run_getObj_map hb, chkInt, findKeyI k w _ _ h1, Result.andThen, h5]
set_option maxRecDepth 20000 in
/-- 'm[k]'. -/
theorem MapAt.look1 {b : Nat} {L : List En} {w : World} (h : MapAt b L w) (hR : Rise L) (k : Int) :
    (Instr.lookup 51 (.map (some b)) (.int .i64 k) false).run Try.prog w = .ok (enV ((lk L k).getD zEn)) w := by
  obtain ⟨es, c, hb, m⟩ := h
  rcases m.find hR k with ⟨h1, h2, _⟩ | ⟨j, e, x, h1, h2, h3, h4, h5⟩
  · simp [Instr.lookup, run_underlying underIE, MapKept.run_getObj_map hb, chkInt, findKeyI k w _ _ h1, Result.andThen, h2, zEn]
  · simp [Instr.lookup, run_underlying underIE, MapKept.run_getObj_map hb, chkInt, findKeyI k w _ _ h1, Result.andThen, h5]
theorem setBlock_grown (w : World) (b : Nat) (o : Obj) : w.grownBy (ChangeMaps.setBlock w b o) (some b) := by
  refine ⟨rfl, rfl, rfl, by simp [ChangeMaps.setBlock], fun k _ hk => ?_⟩
  simp only [ChangeMaps.setBlock]
  rw [Array.getElem?_setIfInBounds]
  split
  · rename_i e; exact absurd (by rw [e]) hk
  · rfl
theorem setBlock_at {w : World} {b : Nat} (o : Obj) (h : b < w.heap.size) : (ChangeMaps.setBlock w b o).heap[b]? = some o := by simp [ChangeMaps.setBlock, h]
theorem staysI (k : Int) (w : World) : (Instr.keyThatStays (.int .i64 k) (.int .i64 k)).run Try.prog w = .ok (.int .i64 k) w := by
  have : Instr.sameBits 10000 (.int .i64 k) (.int .i64 k) = true := by
    rw [show (10000 : Nat) = 9999 + 1 from rfl]
    simp [Instr.sameBits]
  simp [Instr.keyThatStays, this]
set_option maxRecDepth 20000 in
/-- 'm[k] = e', where k is new. -/
theorem MapAt.put {b : Nat} {L : List En} {w : World} (h : MapAt b L w) (hR : Rise L) (x : En) (hk : lk L x.id = none) :
    ∃ w', (Instr.mapUpdate 51 (.map (some b)) (.int .i64 x.id) (enV x)).run Try.prog w = .ok () w' ∧ MapAt b (x :: L) w' ∧ w.grownBy w' (some b) := by
  obtain ⟨es, c, hb, m⟩ := h
  have hbl : b < w.heap.size := (Array.getElem?_eq_some_iff.1 hb).1
  rcases m.find hR x.id with ⟨h1, h2, h3⟩ | ⟨j, e, y, h1, h2, h3, h4, h5⟩
  · refine ⟨ChangeMaps.setBlock w b (.map (es.push { key := .int .i64 x.id, val := enV x, born := c }) (c + 1)), by simp [Instr.mapUpdate, run_underlying underIE, MapKept.run_getObj_map hb, chkInt, findKeyI _ w _ _ h1, MapKept.run_setObj_map _ hb, Result.andThen, ChangeMaps.setBlock], ?_, setBlock_grown _ _ _⟩
    refine ⟨_, _, setBlock_at _ hbl, MapKept.stamped_push m.st h3, ?_, ?_⟩
    · intro e he
      rw [Array.toList_push] at he
      rcases List.mem_append.1 he with he | he
      · exact m.each e he
      · rw [List.mem_singleton.1 he]; rfl
    · rw [Array.toList_push, List.map_append, List.map_cons]
      refine (List.Perm.append_right _ m.pm).trans ?_
      exact List.perm_append_comm
  · rw [hk] at h5; cases h5
set_option maxRecDepth 20000 in
/-- 'm[k] = e', where k is there. -/
theorem MapAt.set {b : Nat} {L : List En} {w : World} (h : MapAt b L w) (hR : Rise L) (x : En) {y : En} (hk : lk L x.id = some y) :
    ∃ w', (Instr.mapUpdate 51 (.map (some b)) (.int .i64 x.id) (enV x)).run Try.prog w = .ok () w' ∧ MapAt b (L.map (fun z => if z.id = x.id then x else z)) w' ∧ w.grownBy w' (some b) := by
  obtain ⟨es, c, hb, m⟩ := h
  have hbl : b < w.heap.size := (Array.getElem?_eq_some_iff.1 hb).1
  rcases m.find hR x.id with ⟨h1, h2, h3⟩ | ⟨j, e, y', h1, h2, h3, h4, h5⟩
  · rw [hk] at h2; cases h2
  · have hj : es[j]? = some e := by simpa using h2
    have hlist : (es.modify j (fun e' => { e' with key := .int .i64 x.id, val := enV x })).toList = es.toList.set j { e with key := .int .i64 x.id, val := enV x } := by rw [Array.toList_modify, ChangeMaps.modify_eq_set _ _ _ _ h2]
    refine ⟨ChangeMaps.setBlock w b (.map (es.modify j (fun e' => { e' with key := .int .i64 x.id, val := enV x })) c), by simp [Instr.mapUpdate, run_underlying underIE, MapKept.run_getObj_map hb, chkInt, findKeyI _ w _ _ h1, hj, h3, staysI, MapKept.run_setObj_map _ hb, Result.andThen, ChangeMaps.setBlock], ?_, setBlock_grown _ _ _⟩
    refine ⟨_, _, setBlock_at _ hbl, MapKept.stamped_modify m.st j _ (fun _ _ => rfl) (fun e' _ q => ?_), ?_, ?_⟩
    · rw [hj] at q; injection q with q; rw [← q, h3]
    · intro e' he'
      rw [hlist] at he'
      rcases List.mem_or_eq_of_mem_set he' with q | q
      · exact m.each e' q
      · rw [q]; rfl
    · rw [hlist, List.map_set]
      have hp : (es.toList.map fun e => (kI e.key, e.val))[j]? = some (x.id, e.val) := by rw [List.getElem?_map, h2]; simp [h3, kI]
      show ((es.toList.map fun e => (kI e.key, e.val)).set j (x.id, enV x)).Perm _
      rw [set_is m.keys hp]
      refine (m.pm.map _).trans ?_
      rw [List.map_map, List.map_map]
      refine List.Perm.of_eq (List.map_congr_left fun z _ => ?_)
      simp only [Function.comp]
      by_cases q : z.id = x.id
      · rw [if_pos q, if_pos q]
      · rw [if_neg q, if_neg q]
set_option maxRecDepth 20000 in
/-- 'delete(m, k)'. -/
theorem MapAt.del {b : Nat} {L : List En} {w : World} (h : MapAt b L w) (hR : Rise L) (k : Int) (ty : TypeId) :
    ∃ w', (Builtin.delete_ #[51, 3] ty #[.map (some b), .int .i64 k]).run Try.prog w = .ok (.tuple #[]) w' ∧ MapAt b (wipe L k) w' ∧ w.grownBy w' (some b) := by
  obtain ⟨es, c, hb, m⟩ := h
  have hbl : b < w.heap.size := (Array.getElem?_eq_some_iff.1 hb).1
  rcases m.find hR k with ⟨h1, h2, h3⟩ | ⟨j, e, y', h1, h2, h3, h4, h5⟩
  · refine ⟨ChangeMaps.setBlock w b (.map es c), by simp [Builtin.delete_, run_underlying underIE, MapKept.run_getObj_map hb, chkInt, findKeyI _ w _ _ h1, MapKept.run_setObj_map _ hb, Result.andThen, ChangeMaps.setBlock], ?_, setBlock_grown _ _ _⟩
    have : wipe L k = L := List.filter_eq_self.2 (fun x hx => decide_eq_true (lk_none h2 x hx))
    rw [this]
    exact ⟨es, c, setBlock_at _ hbl, m⟩
  · have hjl : j < es.toList.length := (List.getElem?_eq_some_iff.1 h2).1
    have hjs : j < es.size := by simpa using hjl
    have hsub : (es.eraseIdxIfInBounds j).toList = es.toList.eraseIdx j := by
      unfold Array.eraseIdxIfInBounds
      rw [dif_pos hjs]
      simp
    refine ⟨ChangeMaps.setBlock w b (.map (es.eraseIdxIfInBounds j) c), by simp [Builtin.delete_, run_underlying underIE, MapKept.run_getObj_map hb, chkInt, findKeyI _ w _ _ h1, MapKept.run_setObj_map _ hb, Result.andThen, ChangeMaps.setBlock], ?_, setBlock_grown _ _ _⟩
    refine ⟨_, _, setBlock_at _ hbl, MapKept.stamped_erase m.st j, ?_, ?_⟩
    · intro e' he'
      rw [hsub] at he'
      exact m.each e' (List.mem_of_mem_eraseIdx he')
    · have hp : (es.toList.map fun e => (kI e.key, e.val))[j]? = some (k, e.val) := by rw [List.getElem?_map, h2]; simp [h3, kI]
      rw [hsub, er_map, erase_is m.keys hp]
      refine (m.pm.filter _).trans ?_
      rw [List.filter_map]
      exact List.Perm.refl _
end Go.Proofs.Yteppdlaoeoeplaa
