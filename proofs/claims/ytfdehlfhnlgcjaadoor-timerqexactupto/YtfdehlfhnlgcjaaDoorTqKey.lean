/-
  Ours: keys as values: compared, hashed, found among a map's entries.
-/
import Derived.Test.YtfdehlfhnlgcjaaDoorTqM
import Derived.Test.YtfdehlfhnlgcjaaDoorLedOwn
import Derived.Maps.OwnSet
import Derived.MapKept
namespace Go.Proofs.YtfdehlfhnlgcjaaDoor
open Go.RowKit TqM

def kyL (k : Ky) : List Value := [.int .i64 k.d, .int .i64 k.l, .int .i64 k.n]
abbrev kyV (k : Ky) : Value := .agg #[.int .i64 k.d, .int .i64 k.l, .int .i64 k.n]
theorem kyV_inj {a b : Ky} (h : kyV a = kyV b) : a = b := by
  cases a; cases b; simp [kyV] at h; simp [h]
theorem ky_eq (a b : Ky) : a = b ↔ a.d = b.d ∧ a.l = b.l ∧ a.n = b.n := by cases a; cases b; simp
set_option linter.unusedSimpArgs false
theorem stoodT : Tryd.prog.stoodInHeld 24 = false := by kernel_rfl
theorem partK (x y z : Int) (i : Nat) (v : Value) (hv : [Value.int .i64 x, .int .i64 y, .int .i64 z][i]? = some v) (w : World) : (part 3 #[.int .i64 x, .int .i64 y, .int .i64 z] i).run Tryd.prog w = .ok v w := by
  have hi : (Tryd.prog.info? 3).map (·.size) = some 1 := by kernel_rfl
  have hu : Tryd.prog.underlying 3 = some (.int .i64) := by kernel_rfl
  have hagg : (isAgg 3).run Tryd.prog w = .ok false w := by
    unfold isAgg
    rw [Sem.run_bind, run_underlying hu w]
    simp
  cases hq : Tryd.prog.info? 3 with
  | none => simp [hq] at hi
  | some i0 =>
    have hs : i0.size = 1 := by simpa [hq] using hi
    have : (#[Value.int .i64 x, .int .i64 y, .int .i64 z])[i]? = some v := by simpa using hv
    simp [part, sizeOf, typeInfo, hq, hs, hagg, this]
theorem eqI (n : Nat) (x y : Int) (w : World) : (Op.equalIn (n + 1) 3 (.int .i64 x) (.int .i64 y)).run Tryd.prog w = .ok (x == y) w := by
  have hu : Tryd.prog.underlying 3 = some (.int .i64) := by kernel_rfl
  simp [Op.equalIn, run_underlying hu, Result.andThen]
theorem eqK (a b : Ky) (w : World) : (Op.equal 24 (kyV a) (kyV b)).run Tryd.prog w = .ok (decide (a = b)) w := by
  have underT := Tryd.underlying24
  unfold Op.equal Op.maxDepth
  rw [show (10000 : Nat) = 9998 + 1 + 1 from rfl]
  unfold Op.equalIn
  simp only [Sem.run_bind, run_underlying underT w]
  by_cases h1 : a.d = b.d <;> by_cases h2 : a.l = b.l <;> by_cases h3 : a.n = b.n <;>
    simp [Result.andThen, run_program, stoodT, eqI, fun x y z => partK x y z 0 _ rfl, fun x y z => partK x y z 1 _ rfl, fun x y z => partK x y z 2 _ rfl, h1, h2, h3, ky_eq]
theorem chkI (em : Bool) (n : Nat) (x : Int) (w : World) : (Instr.checkKey em (n + 1) 3 (.int .i64 x)).run Tryd.prog w = .ok () w := by
  have hu : Tryd.prog.underlying 3 = some (.int .i64) := by kernel_rfl
  simp [Instr.checkKey, run_underlying hu, Result.andThen]
theorem chkK (em : Bool) (a : Ky) (w : World) : (Instr.checkKey em 10000 24 (kyV a)).run Tryd.prog w = .ok () w := by
  have underT := Tryd.underlying24
  rw [show (10000 : Nat) = 9998 + 1 + 1 from rfl]
  unfold Instr.checkKey
  simp only [Sem.run_bind, run_underlying underT w]
  simp [Result.andThen, chkI, fun x y z => partK x y z 0 _ rfl, fun x y z => partK x y z 1 _ rfl, fun x y z => partK x y z 2 _ rfl]
/-- A map's entries, as a function from keys to places. -/
def Ent (e : MapEntry) (x : Ky) (i : Nat) : Prop := e.key = kyV x ∧ e.val = .int .i64 (i : Int)
structure MapIs (es : List MapEntry) (f : Ky → Option Nat) : Prop where
  each : ∀ e ∈ es, ∃ x i, Ent e x i
  keys : es.Pairwise (fun a b => a.key ≠ b.key)
  is : ∀ x i, f x = some i ↔ ∃ e ∈ es, Ent e x i
theorem findA (k : Ky) (w : World) : ∀ (es : List MapEntry) (n : Nat), (∀ e ∈ es, ∃ x i, Ent e x i) →
    ((Instr.findAsking 24 (kyV k) es n).run Tryd.prog w = .ok none w ∧ ∀ e ∈ es, e.key ≠ kyV k) ∨
    ∃ j e, (Instr.findAsking 24 (kyV k) es n).run Tryd.prog w = .ok (some (n + j, e.val)) w ∧ es[j]? = some e ∧ e.key = kyV k
  | [], n, _ => .inl ⟨by simp [Instr.findAsking], by simp⟩
  | e :: es, n, hall => by
    obtain ⟨x, i, hx, _⟩ := hall e (by simp)
    have hr := eqK k x w
    by_cases hk : k = x
    · refine .inr ⟨0, e, ?_, rfl, by rw [hx, hk]⟩
      rw [decide_eq_true hk] at hr
      simp [Instr.findAsking, hx, hr]
    · rw [decide_eq_false hk] at hr
      have hne : e.key ≠ kyV k := fun h => hk (kyV_inj (h.symm.trans hx))
      rcases findA k w es (n + 1) (fun y hy => hall y (by simp [hy])) with ⟨h1, h2⟩ | ⟨j, e', h1, h2, h3⟩
      · refine .inl ⟨by simp [Instr.findAsking, hx, hr, h1], fun y hy => ?_⟩
        rcases List.mem_cons.1 hy with rfl | hy
        · exact hne
        · exact h2 y hy
      · exact .inr ⟨j + 1, e', by simp [Instr.findAsking, hx, hr, h1, Nat.add_assoc, Nat.add_comm 1 j], by simpa using h2, h3⟩
theorem findK (k : Ky) (w : World) (es : List MapEntry) (he : ∀ e ∈ es, ∃ x i, Ent e x i) :
    ((Instr.findKey 24 (kyV k) es).run Tryd.prog w = .ok none w ∧ ∀ e ∈ es, e.key ≠ kyV k) ∨
    ∃ j e, (Instr.findKey 24 (kyV k) es).run Tryd.prog w = .ok (some (j, e.val)) w ∧ es[j]? = some e ∧ e.key = kyV k := by
  have underT := Tryd.underlying24
  have hf := findA k w es 0 he
  cases es with
  | nil => exact .inl ⟨by simp [Instr.findKey, run_underlying underT, Instr.findNow, Result.andThen], by simp⟩
  | cons e r =>
    have : ∀ q, (Instr.findAsking 24 (kyV k) (e :: r) 0).run Tryd.prog w = q → (Instr.findKey 24 (kyV k) (e :: r)).run Tryd.prog w = q := fun q hq => by
      rw [← hq]
      simp [Instr.findKey, run_underlying underT, Instr.findNow, Instr.sameNow, Result.andThen]
    rcases hf with ⟨h1, h2⟩ | ⟨j, e', h1, h2, h3⟩
    · exact .inl ⟨this _ h1, h2⟩
    · exact .inr ⟨j, e', by simpa using this _ h1, h2, h3⟩
/-- Block b is a map that tells these places. -/
def MapAt (b : Nat) (f : Ky → Option Nat) (w : World) : Prop := ∃ es clock, w.heap[b]? = some (.map es clock) ∧ MapIs es.toList f
theorem MapAt.lt {b : Nat} {f : Ky → Option Nat} {w : World} (h : MapAt b f w) : b < w.heap.size := by
  obtain ⟨es, c, h, _⟩ := h
  exact (Array.getElem?_eq_some_iff.1 h).1
theorem MapAt.same {b : Nat} {f : Ky → Option Nat} {w w' : World} (h : MapAt b f w) (e : w'.heap[b]? = w.heap[b]?) : MapAt b f w' := by
  obtain ⟨es, c, h, m⟩ := h
  exact ⟨es, c, e.trans h, m⟩
theorem MapAt.new (w : World) (c : Nat) : MapAt w.heap.size (fun _ => none) (w.alloc (.map #[] c)) :=
  ⟨#[], c, (MapKept.heap_alloc w _).1, ⟨by simp, by simp, by simp⟩⟩
theorem underMap : Tryd.prog.underlying 51 = some (.map 24 3) := by kernel_rfl
theorem zeroInt (w : World) : (zeroValue 3).run Tryd.prog w = .ok (.int .i64 0) w := by kernel_rfl
theorem key_uniq {es : List MapEntry} (h : es.Pairwise (fun a b => a.key ≠ b.key)) {a b : MapEntry} (ha : a ∈ es) (hb : b ∈ es) (e : a.key = b.key) : a = b := by
  induction h with
  | nil => cases ha
  | cons h1 _ ih =>
    rcases List.mem_cons.1 ha with ea | ha
    · rcases List.mem_cons.1 hb with eb | hb
      · rw [ea, eb]
      · exact absurd e (by rw [ea]; exact h1 b hb)
    · rcases List.mem_cons.1 hb with eb | hb
      · exact absurd e.symm (by rw [eb]; exact h1 a ha)
      · exact ih ha hb
set_option maxRecDepth 20000 in
/-- 'i, ok := m[k]'. -/
theorem MapAt.look {b : Nat} {f : Ky → Option Nat} {w : World} (h : MapAt b f w) (k : Ky) :
    (Instr.lookup 51 (.map (some b)) (kyV k) true).run Tryd.prog w = .ok (.tuple #[.int .i64 (((f k).getD 0 : Nat) : Int), .bool (f k).isSome]) w := by
  obtain ⟨es, c, hb, m⟩ := h
  rcases findK k w es.toList m.each with ⟨h1, h2⟩ | ⟨j, e, h1, h2, h3⟩
  · have : f k = none := by
      cases hf : f k with
      | none => rfl
      | some i =>
        obtain ⟨e, he, h3, _⟩ := (m.is k i).1 hf
        exact absurd h3 (h2 e he)
    simp [Instr.lookup, run_underlying underMap, MapKept.run_getObj_map hb, chkK, h1, zeroInt, Result.andThen, this]
  · have he := List.mem_of_getElem? h2
    obtain ⟨x, i, hx, hv⟩ := m.each e he
    obtain rfl : k = x := kyV_inj (h3.symm.trans hx)
    have : f k = some i := (m.is k i).2 ⟨e, he, hx, hv⟩
    simp [Instr.lookup, run_underlying underMap, MapKept.run_getObj_map hb, chkK, h1, hv, Result.andThen, this]
theorem setBlock_grown (w : World) (b : Nat) (o : Obj) : w.grownBy (ChangeMaps.setBlock w b o) (some b) := by
  refine ⟨rfl, rfl, rfl, by simp [ChangeMaps.setBlock], fun k _ hk => ?_⟩
  simp only [ChangeMaps.setBlock]
  rw [Array.getElem?_setIfInBounds]
  split
  · rename_i e; exact absurd (by rw [e]) hk
  · rfl
theorem setBlock_at {w : World} {b : Nat} (o : Obj) (h : b < w.heap.size) : (ChangeMaps.setBlock w b o).heap[b]? = some o := by simp [ChangeMaps.setBlock, h]
theorem stays (k : Ky) (w : World) : (Instr.keyThatStays (kyV k) (kyV k)).run Tryd.prog w = .ok (kyV k) w := by
  have : Instr.sameBits 10000 (kyV k) (kyV k) = true := by
    rw [show (10000 : Nat) = 9998 + 1 + 1 from rfl]
    simp [Instr.sameBits]
  simp [Instr.keyThatStays, this]
set_option maxRecDepth 20000 in
/-- 'm[k] = i'. -/
theorem MapAt.put {b : Nat} {f : Ky → Option Nat} {w : World} (h : MapAt b f w) (k : Ky) (i : Nat) :
    ∃ w', (Instr.mapUpdate 51 (.map (some b)) (kyV k) (.int .i64 (i : Int))).run Tryd.prog w = .ok () w' ∧ MapAt b (upd f k (some i)) w' ∧ w.grownBy w' (some b) := by
  obtain ⟨es, c, hb, m⟩ := h
  have hbl : b < w.heap.size := (Array.getElem?_eq_some_iff.1 hb).1
  rcases findK k w es.toList m.each with ⟨h1, h2⟩ | ⟨j, e, h1, h2, h3⟩
  · refine ⟨ChangeMaps.setBlock w b (.map (es.push { key := kyV k, val := .int .i64 (i : Int), born := c }) (c + 1)), by simp [Instr.mapUpdate, run_underlying underMap, MapKept.run_getObj_map hb, chkK, h1, MapKept.run_setObj_map _ hb, Result.andThen, ChangeMaps.setBlock], ?_, setBlock_grown _ _ _⟩
    refine ⟨_, _, setBlock_at _ hbl, ?_, ?_, fun x n => ?_⟩
    · intro e he
      rw [Array.toList_push] at he
      rcases List.mem_append.1 he with he | he
      · exact m.each e he
      · rw [List.mem_singleton.1 he]; exact ⟨k, i, rfl, rfl⟩
    · rw [Array.toList_push, List.pairwise_append]
      refine ⟨m.keys, by simp, fun a ha b' hb' => ?_⟩
      rw [List.mem_singleton.1 hb']
      exact h2 a ha
    · simp only [upd, Array.toList_push, List.mem_append, List.mem_singleton]
      by_cases e1 : x = k
      · rw [if_pos e1]
        subst e1
        constructor
        · intro h; cases h
          exact ⟨_, .inr rfl, rfl, rfl⟩
        · rintro ⟨e, he | rfl, h3, h4⟩
          · exact absurd h3 (h2 e he)
          · simp [Value.int.injEq] at h4
            rw [show n = i from by omega]
      · rw [if_neg e1, m.is x n]
        constructor
        · rintro ⟨e, he, h3⟩; exact ⟨e, .inl he, h3⟩
        · rintro ⟨e, he | rfl, h3, h4⟩
          · exact ⟨e, he, h3, h4⟩
          · exact absurd (kyV_inj h3).symm e1
  · have hj : es[j]? = some e := by simpa using h2
    have hm := List.mem_of_getElem? h2
    obtain ⟨x0, i0, hx0, hv0⟩ := m.each e hm
    obtain rfl : k = x0 := kyV_inj (h3.symm.trans hx0)
    have hlist : (es.modify j (fun e' => { e' with key := kyV k, val := .int .i64 (i : Int) })).toList = es.toList.set j { e with key := kyV k, val := .int .i64 (i : Int) } := by rw [Array.toList_modify, ChangeMaps.modify_eq_set _ _ _ _ h2]
    refine ⟨ChangeMaps.setBlock w b (.map (es.modify j (fun e' => { e' with key := kyV k, val := .int .i64 (i : Int) })) c), by simp [Instr.mapUpdate, run_underlying underMap, MapKept.run_getObj_map hb, chkK, h1, hj, h3, stays, MapKept.run_setObj_map _ hb, Result.andThen, ChangeMaps.setBlock], ?_, setBlock_grown _ _ _⟩
    have hjl : j < es.toList.length := (List.getElem?_eq_some_iff.1 h2).1
    have who : ∀ y, y ∈ es.toList.set j { e with key := kyV k, val := .int .i64 (i : Int) } ↔ y = { e with key := kyV k, val := .int .i64 (i : Int) } ∨ (y ∈ es.toList ∧ y.key ≠ kyV k) := fun y => by
      constructor
      · intro hy
        obtain ⟨n, hn, en⟩ := List.getElem_of_mem hy
        rw [List.getElem_set] at en
        split at en
        · exact .inl en.symm
        · rename_i hne
          have hn' : n < es.toList.length := by simpa using hn
          refine .inr ⟨en ▸ List.getElem_mem hn', fun hk => ?_⟩
          have : es.toList[n]'hn' = e := key_uniq m.keys (List.getElem_mem hn') hm (by rw [en, hk, h3])
          have hp := List.pairwise_iff_getElem.1 m.keys
          have ee : es.toList[j]'hjl = e := by rw [List.getElem?_eq_getElem hjl] at h2; injection h2
          rcases Nat.lt_or_ge n j with h | h
          · exact hp n j hn' hjl h (by rw [this, ee])
          · exact hp j n hjl hn' (by omega) (by rw [this, ee])
      · rintro (rfl | ⟨hy, hk⟩)
        · exact List.mem_iff_getElem.2 ⟨j, by simpa using hjl, by simp⟩
        · obtain ⟨n, hn, en⟩ := List.getElem_of_mem hy
          refine List.mem_iff_getElem.2 ⟨n, by simpa using hn, ?_⟩
          rw [List.getElem_set]
          split
          · rename_i e1
            subst e1
            exfalso
            apply hk
            rw [← en]
            rw [List.getElem?_eq_getElem hn] at h2
            injection h2 with h2
            rw [h2, h3]
          · exact en
    refine ⟨_, _, setBlock_at _ hbl, ?_, ?_, fun x n => ?_⟩
    · intro y hy
      rw [hlist] at hy
      rcases (who y).1 hy with rfl | ⟨hy, _⟩
      · exact ⟨k, i, rfl, rfl⟩
      · exact m.each y hy
    · rw [hlist]
      have e1 : (es.toList.set j { e with key := kyV k, val := .int .i64 (i : Int) }).map (·.key) = es.toList.map (·.key) := by
        rw [List.map_set]
        apply List.ext_getElem (by simp)
        intro n h4 h5
        rw [List.getElem_set]
        split
        · rename_i e1
          subst e1
          rw [List.getElem?_eq_getElem hjl] at h2
          injection h2 with h2
          simp only [List.getElem_map]
          rw [h2, h3]
        · rfl
      have p1 := List.pairwise_map.2 m.keys
      exact List.pairwise_map.1 (e1 ▸ p1)
    · rw [hlist]
      simp only [upd]
      by_cases e1 : x = k
      · rw [if_pos e1]
        subst e1
        constructor
        · intro h; cases h
          exact ⟨_, (who _).2 (.inl rfl), rfl, rfl⟩
        · rintro ⟨y, hy, h4, h5⟩
          rcases (who y).1 hy with rfl | ⟨_, h6⟩
          · simp [Value.int.injEq] at h5
            rw [show n = i from by omega]
          · exact absurd h4 h6
      · rw [if_neg e1, m.is x n]
        constructor
        · rintro ⟨y, hy, h4⟩
          exact ⟨y, (who y).2 (.inr ⟨hy, fun h => e1 (kyV_inj (h4.1.symm.trans h))⟩), h4⟩
        · rintro ⟨y, hy, h4⟩
          rcases (who y).1 hy with rfl | ⟨hy, _⟩
          · exact absurd (kyV_inj h4.1).symm e1
          · exact ⟨y, hy, h4⟩
set_option maxRecDepth 20000 in
/-- 'delete(m, k)'. -/
theorem MapAt.del {b : Nat} {f : Ky → Option Nat} {w : World} (h : MapAt b f w) (k : Ky) (ty : TypeId) :
    ∃ w', (Builtin.delete_ #[51, 24] ty #[.map (some b), kyV k]).run Tryd.prog w = .ok (.tuple #[]) w' ∧ MapAt b (upd f k none) w' ∧ w.grownBy w' (some b) := by
  obtain ⟨es, c, hb, m⟩ := h
  have hbl : b < w.heap.size := (Array.getElem?_eq_some_iff.1 hb).1
  rcases findK k w es.toList m.each with ⟨h1, h2⟩ | ⟨j, e, h1, h2, h3⟩
  · refine ⟨ChangeMaps.setBlock w b (.map es c), by simp [Builtin.delete_, run_underlying underMap, MapKept.run_getObj_map hb, chkK, h1, MapKept.run_setObj_map _ hb, Result.andThen, ChangeMaps.setBlock], ?_, setBlock_grown _ _ _⟩
    refine ⟨es, c, setBlock_at _ hbl, m.each, m.keys, fun x n => ?_⟩
    simp only [upd]
    by_cases e1 : x = k
    · rw [if_pos e1]
      subst e1
      constructor
      · intro h; cases h
      · rintro ⟨e, he, h4, _⟩; exact absurd h4 (h2 e he)
    · rw [if_neg e1]; exact m.is x n
  · have hjl : j < es.toList.length := (List.getElem?_eq_some_iff.1 h2).1
    have hjs : j < es.size := by simpa using hjl
    have hm := List.mem_of_getElem? h2
    have hsub : (es.eraseIdxIfInBounds j).toList = es.toList.eraseIdx j := by
      unfold Array.eraseIdxIfInBounds
      rw [dif_pos hjs]
      simp
    have ej : es.toList[j]'hjl = e := by rw [List.getElem?_eq_getElem hjl] at h2; injection h2
    have who : ∀ y, y ∈ es.toList.eraseIdx j ↔ y ∈ es.toList ∧ y.key ≠ kyV k := fun y => by
      rw [List.mem_eraseIdx_iff_getElem?]
      constructor
      · rintro ⟨n, hn, hy⟩
        have hn' : n < es.toList.length := (List.getElem?_eq_some_iff.1 hy).1
        have en : es.toList[n]'hn' = y := by rw [List.getElem?_eq_getElem hn'] at hy; injection hy
        refine ⟨List.mem_of_getElem? hy, fun hk => ?_⟩
        have hp := List.pairwise_iff_getElem.1 m.keys
        rcases Nat.lt_or_ge n j with h | h
        · exact hp n j hn' hjl h (by rw [en, ej, hk, h3])
        · exact hp j n hjl hn' (by omega) (by rw [en, ej, hk, h3])
      · rintro ⟨hy, hk⟩
        obtain ⟨n, hn, en⟩ := List.getElem_of_mem hy
        refine ⟨n, fun e1 => hk ?_, by rw [List.getElem?_eq_getElem hn, en]⟩
        subst e1
        rw [← en, ej, h3]
    refine ⟨ChangeMaps.setBlock w b (.map (es.eraseIdxIfInBounds j) c), by simp [Builtin.delete_, run_underlying underMap, MapKept.run_getObj_map hb, chkK, h1, MapKept.run_setObj_map _ hb, Result.andThen, ChangeMaps.setBlock], ?_, setBlock_grown _ _ _⟩
    refine ⟨_, _, setBlock_at _ hbl, ?_, ?_, fun x n => ?_⟩
    · intro y hy
      rw [hsub] at hy
      exact m.each y ((who y).1 hy).1
    · rw [hsub]
      exact m.keys.sublist (List.eraseIdx_sublist _ _)
    · rw [hsub]
      simp only [upd]
      by_cases e1 : x = k
      · rw [if_pos e1]
        subst e1
        constructor
        · intro h; cases h
        · rintro ⟨y, hy, h4, _⟩; exact absurd h4 ((who y).1 hy).2
      · rw [if_neg e1, m.is x n]
        constructor
        · rintro ⟨y, hy, h4⟩
          exact ⟨y, (who y).2 ⟨hy, fun h => e1 (kyV_inj (h4.1.symm.trans h))⟩, h4⟩
        · rintro ⟨y, hy, h4⟩
          exact ⟨y, ((who y).1 hy).1, h4⟩
end Go.Proofs.YtfdehlfhnlgcjaaDoor
