/-
  Ours: what a call may change; rows of three cells; a set of numbers as a map.
-/
import Derived.Test.YtcnhcdlbippjoaaNwM
import Derived.Test.YtcnhcdlbippjoaaLedOwn
import Derived.Test.YtcnhcdlbippjoaaFrmApp
import Derived.Maps.OwnSet
import Derived.MapKept
namespace Go.Proofs.Ytcnhcdlbippjoaa
open Go.RowKit NwM

/-- What a call leaves: all blocks but those of M. -/
structure Kp (M : Nat → Prop) (w w' : World) : Prop where
  os : w'.os = w.os
  tape : w'.tape = w.tape
  output : w'.output = w.output
  size : w.heap.size ≤ w'.heap.size
  block : ∀ k, k < w.heap.size → ¬ M k → w'.heap[k]? = w.heap[k]?
theorem Kp.refl (M : Nat → Prop) (w : World) : Kp M w w := ⟨rfl, rfl, rfl, Nat.le_refl _, fun _ _ _ => rfl⟩
theorem Kp.trans {M N : Nat → Prop} {a b c : World} (h : Kp M a b) (k : Kp N b c) (hN : ∀ g, g < a.heap.size → N g → M g) : Kp M a c :=
  ⟨k.os.trans h.os, k.tape.trans h.tape, k.output.trans h.output, Nat.le_trans h.size k.size, fun i hi hm => (k.block i (Nat.lt_of_lt_of_le hi h.size) (fun hn => hm (hN i hi hn))).trans (h.block i hi hm)⟩
theorem Kp.mono {M N : Nat → Prop} {a b : World} (h : Kp M a b) (hN : ∀ g, g < a.heap.size → M g → N g) : Kp N a b := ⟨h.os, h.tape, h.output, h.size, fun i hi hm => h.block i hi (fun hn => hm (hN i hi hn))⟩
theorem Kp.of_grown {a b : World} {row : Option Nat} (h : a.grownBy b row) : Kp (fun g => row = some g) a b := ⟨h.os, h.tape, h.output, h.size, fun i hi hm => h.block i hi (fun e => hm e.symm)⟩
theorem Kp.of_below {a b : World} (h : Below a.heap.size a b) (M : Nat → Prop) : Kp M a b := ⟨h.os, h.tape, h.output, h.size, fun i hi _ => h.block i hi⟩
theorem Kp.below {a b : World} {M : Nat → Prop} (h : Kp M a b) (hM : ∀ g, M g → a.heap.size ≤ g) : Below a.heap.size a b := ⟨h.os, h.tape, h.output, h.size, fun i hi => h.block i hi (fun hm => by have := hM i hm; omega)⟩
theorem Kp.drewN {M : Nat → Prop} {w w' : World} (h : Kp M w w') (n : Nat) : Kp M w (w'.drewN n) := ⟨h.os, h.tape, h.output, h.size, h.block⟩
theorem Kp.from_drewN {M : Nat → Prop} {w w' : World} {n : Nat} (h : Kp M (w.drewN n) w') : Kp M w w' := ⟨h.os, h.tape, h.output, h.size, h.block⟩
theorem Blk.kp {G : Nat} {ty : TypeId} {cs : List Value} {w w' : World} {M : Nat → Prop} (h : Blk G ty cs w) (k : Kp M w w') (hm : ¬ M G) : Blk G ty cs w' := (k.block G h.lt hm).trans h
theorem RowV.kp {e : TypeId} {base : Nat} {w w' : World} {v : Value} {xs : List Value} {M : Nat → Prop} (h : RowV e base w v xs) (k : Kp M w w') (hm : ∀ g, v.ownBlock = some g → ¬ M g) : RowV e base w' v xs := by
  refine ⟨h.1, ?_⟩
  rcases h.2 with hn | ⟨g, cap, cur, hv, hg, hh, rest⟩
  · exact .inl hn
  · have lt : g < w.heap.size := (Array.getElem?_eq_some_iff.1 hh).1
    exact .inr ⟨g, cap, cur, hv, hg, (k.block g lt (hm g (by rw [hv]; rfl))).trans hh, rest⟩
theorem Rd.kp {w w' : World} {v : Value} {vs : List Value} {M : Nat → Prop} (h : Rd w v vs) (k : Kp M w w') (hm : ∀ g, v.ownBlock = some g → ¬ M g) : Rd w' v vs := by
  obtain ⟨ao, cap, e, h1, h2, h3⟩ := h
  refine ⟨ao, cap, e, h1, h2, fun i hi => ?_⟩
  obtain ⟨g, o, e1, lt, e2⟩ := h3 i hi
  refine ⟨g, o, e1, Nat.lt_of_lt_of_le lt k.size, ?_⟩
  rw [← e2]
  have hb := k.block g lt (hm g (by rw [e, e1]; rfl))
  simp only [World.cell?, hb]
theorem cell_kp {w w' : World} {M : Nat → Prop} {x : Addr} {v : Value} (k : Kp M w w') (hm : ¬ M x.block) (h : w.cell? x = some v) : w'.cell? x = some v := by
  have hl := World.block_lt_of_cell? _ _ h
  rw [← h]
  simp only [World.cell?, k.block x.block hl hm]

/-! Rows in general. -/
theorem own_same {w w' : World} {base sz n : Nat} {e : TypeId} {v : Value} {xs : List Value} (h : w.ownsRow base e sz v n xs) (hb : ∀ g, v.ownBlock = some g → w'.heap[g]? = w.heap[g]?) : w'.ownsRow base e sz v n xs := by
  refine ⟨h.1, ?_⟩
  rcases h.2 with hn | ⟨g, cap, cur, hv, hg, hh, rest⟩
  · exact .inl hn
  · exact .inr ⟨g, cap, cur, hv, hg, (hb g (by rw [hv]; rfl)).trans hh, rest⟩
theorem own_heap {w : World} {base sz n g : Nat} {e : TypeId} {v : Value} {xs : List Value} (h : w.ownsRow base e sz v n xs) (hg : v.ownBlock = some g) : base ≤ g ∧ ∃ cur, w.heap[g]? = some (.cells cur e (0, 0)) := by
  rcases h.2 with ⟨rfl, _⟩ | ⟨g', cap, cur, rfl, hb, hh, _⟩
  · simp [Value.ownBlock] at hg
  · have : g' = g := by simpa [Value.ownBlock] using hg
    subst this
    exact ⟨hb, cur, hh⟩
theorem own_lt {w : World} {base sz n g : Nat} {e : TypeId} {v : Value} {xs : List Value} (h : w.ownsRow base e sz v n xs) (hg : v.ownBlock = some g) : g < w.heap.size := by
  obtain ⟨_, cur, hc⟩ := own_heap h hg
  exact (Array.getElem?_eq_some_iff.1 hc).1
/-- Blocks of two types are two blocks. -/
theorem ne_ty {w : World} {g g' : Nat} {c c' : Array Value} {e e' : TypeId} (h : w.heap[g]? = some (.cells c e (0, 0))) (h' : w.heap[g']? = some (.cells c' e' (0, 0))) (ne : e ≠ e') : g ≠ g' := fun q => by
  subst q
  rw [h] at h'
  injection h' with h'
  injection h' with _ h'
  exact ne h'
theorem ne_map {w : World} {g g' : Nat} {c : Array Value} {e : TypeId} {es : Array MapEntry} {k : Nat} (h : w.heap[g]? = some (.cells c e (0, 0))) (h' : w.heap[g']? = some (.map es k)) : g ≠ g' := fun q => by
  subst q
  rw [h] at h'
  cases h'
theorem own_grown {w w' : World} {base sz n : Nat} {e : TypeId} {v : Value} {xs : List Value} {row : Option Nat} (h : w.ownsRow base e sz v n xs) (hg : w.grownBy w' row) (hn : ∀ g, v.ownBlock = some g → row ≠ some g) : w'.ownsRow base e sz v n xs :=
  own_same h (fun g e => hg.block g (own_lt h e) (fun q => hn g e q.symm))
theorem own_kp {w w' : World} {base sz n : Nat} {e : TypeId} {v : Value} {xs : List Value} {M : Nat → Prop} (h : w.ownsRow base e sz v n xs) (k : Kp M w w') (hn : ∀ g, v.ownBlock = some g → ¬ M g) : w'.ownsRow base e sz v n xs :=
  own_same h (fun g e => k.block g (own_lt h e) (hn g e))
theorem own_mono {w : World} {base base' sz n : Nat} {e : TypeId} {v : Value} {xs : List Value} (h : w.ownsRow base e sz v n xs) (hb : base' ≤ base) : w.ownsRow base' e sz v n xs := by
  refine ⟨h.1, ?_⟩
  rcases h.2 with hn | ⟨g, cap, cur, hv, hg, rest⟩
  · exact .inl hn
  · exact .inr ⟨g, cap, cur, hv, Nat.le_trans hb hg, rest⟩

/-! Rows whose elements have three cells. -/
theorem fm_len {α : Type} {f : α → List Value} (hf : ∀ x, (f x).length = 3) : ∀ xs : List α, (xs.flatMap f).length = xs.length * 3
  | [] => rfl
  | e :: r => by
    have := fm_len hf r
    simp only [List.flatMap_cons, List.length_append, List.length_cons, hf] at this ⊢
    omega
theorem fm_at {α : Type} {f : α → List Value} (hf : ∀ x, (f x).length = 3) : ∀ (xs : List α) (i j : Nat) (x : α), xs[i]? = some x → j < 3 → (xs.flatMap f)[i * 3 + j]? = (f x)[j]?
  | e :: r, 0, j, x, h, hj => by
    simp at h
    subst h
    rw [Nat.zero_mul, Nat.zero_add]
    show (f e ++ r.flatMap f)[j]? = _
    rw [List.getElem?_append_left (by rw [hf]; exact hj)]
  | e :: r, i + 1, j, x, h, hj => by
    have ih := fm_at hf r i j x (by simpa using h) hj
    show (f e ++ r.flatMap f)[(i + 1) * 3 + j]? = _
    rw [List.getElem?_append_right (by rw [hf]; omega)]
    rw [show (i + 1) * 3 + j - (f e).length = i * 3 + j from by rw [hf]; omega, ih]
theorem fm_take {α : Type} {f : α → List Value} (hf : ∀ x, (f x).length = 3) : ∀ (xs : List α) (i : Nat), (xs.flatMap f).take (i * 3) = (xs.take i).flatMap f
  | [], i => by simp
  | e :: r, 0 => by simp
  | e :: r, i + 1 => by
    have ih := fm_take hf r i
    rw [List.flatMap_cons, List.take_succ_cons, List.flatMap_cons, List.take_append, hf, List.take_of_length_le (by rw [hf]; omega), ← ih]
    congr 2
    omega
theorem fm_drop {α : Type} {f : α → List Value} (hf : ∀ x, (f x).length = 3) : ∀ (xs : List α) (i : Nat), (xs.flatMap f).drop (i * 3) = (xs.drop i).flatMap f
  | [], i => by simp
  | e :: r, 0 => by simp
  | e :: r, i + 1 => by
    have ih := fm_drop hf r i
    rw [List.flatMap_cons, List.drop_succ_cons, List.drop_append, hf, List.drop_of_length_le (by rw [hf]; omega), List.nil_append, ← ih]
    congr 1
    omega
theorem fm_set {α : Type} {f : α → List Value} (hf : ∀ x, (f x).length = 3) (xs : List α) (i : Nat) (x : α) (h : i < xs.length) : (xs.flatMap f).take (i * 3) ++ f x ++ (xs.flatMap f).drop (i * 3 + 3) = (xs.set i x).flatMap f := by
  rw [show i * 3 + 3 = (i + 1) * 3 from by omega, fm_take hf, fm_drop hf, List.set_eq_take_append_cons_drop, if_pos h]
  simp

/-- A row of such elements. -/
abbrev Row3 {α : Type} (e : TypeId) (f : α → List Value) (base : Nat) (w : World) (v : Value) (xs : List α) : Prop := w.ownsRow base e 3 v xs.length (xs.flatMap f)
theorem Row3.open {α : Type} {e : TypeId} {f : α → List Value} {base : Nat} {w : World} {v : Value} {xs : List α} (h : Row3 e f base w v xs) : (v = .slice none 0 0 ∧ xs = []) ∨
    ∃ g cap cur, v = .slice (some ⟨g, 0, none⟩) xs.length cap ∧ base ≤ g ∧ Blk g e cur w ∧ xs.length ≤ cap ∧ cap ≤ maxLen ∧ cur.length = cap * 3 ∧ cur.take (xs.length * 3) = xs.flatMap f := by
  rcases h.2 with ⟨h1, h2⟩ | ⟨g, cap, cur, h1, hb, h2, h3, h4, h5, h6⟩
  · exact .inl ⟨h1, List.eq_nil_of_length_eq_zero h2⟩
  · exact .inr ⟨g, cap, cur.toList, h1, hb, h2, h3, h4, by simpa using h5, h6⟩
theorem Row3.len {α : Type} {e : TypeId} {f : α → List Value} {base : Nat} {w : World} {v : Value} {xs : List α} (h : Row3 e f base w v xs) : ∃ a cap, v = .slice a xs.length cap ∧ xs.length ≤ cap ∧ (a = none → cap = 0) := by
  rcases h.open with ⟨h1, h2⟩ | ⟨g, cap, cur, h1, _, h2, h3, h4, h5, h6⟩
  · subst h2; exact ⟨none, 0, h1, Nat.le_refl _, fun _ => rfl⟩
  · exact ⟨_, cap, h1, h3, fun h => by cases h⟩
theorem Row3.nil {α : Type} (e : TypeId) (f : α → List Value) (base : Nat) (w : World) : Row3 e f base w (.slice none 0 0) [] := World.ownsRow_nil _ _ _ _
theorem Row3.cell {α : Type} {e : TypeId} {f : α → List Value} {base : Nat} {w : World} {g n cap : Nat} {o : Nat} {xs : List α} (hf : ∀ x, (f x).length = 3) (h : Row3 e f base w (.slice (some ⟨g, o, none⟩) n cap) xs) {i : Nat} {x : α} (hi : xs[i]? = some x) (j : Nat) (u : Value) (hu : (f x)[j]? = some u) :
    o = 0 ∧ w.cell? ⟨g, i * 3 + j, none⟩ = some u := by
  rcases h.open with ⟨h1, _⟩ | ⟨g', cap', cur, h1, _, h2, h3, h4, h5, h6⟩
  · cases h1
  · injection h1 with h1 hn hc
    injection h1 with h1
    injection h1 with h1 ho
    subst h1 ho
    refine ⟨rfl, h2.cell _ _ ?_⟩
    have hj : j < 3 := by have := (List.getElem?_eq_some_iff.1 hu).1; rwa [hf] at this
    have hl := (List.getElem?_eq_some_iff.1 hi).1
    have := fm_at hf xs i j x hi hj
    rw [← h6, List.getElem?_take, if_pos (by omega), hu] at this
    exact this
theorem Row3.some {α : Type} {e : TypeId} {f : α → List Value} {base : Nat} {w : World} {v : Value} {xs : List α} (h : Row3 e f base w v xs) (h0 : 0 < xs.length) : ∃ g cap, v = .slice (some ⟨g, 0, none⟩) xs.length cap ∧ xs.length ≤ cap ∧ g < w.heap.size ∧ base ≤ g := by
  rcases h.open with ⟨h1, h2⟩ | ⟨g, cap, cur, h1, hb, h2, h3, h4, h5, h6⟩
  · subst h2; simp at h0
  · exact ⟨g, cap, h1, h3, h2.lt, hb⟩
theorem Row3.cut {α : Type} {e : TypeId} {f : α → List Value} (hf : ∀ x, (f x).length = 3) {base : Nat} {w : World} {a : Option Addr} {n c : Nat} {xs : List α} (h : Row3 e f base w (.slice a n c) xs) {k : Nat} (hk : k ≤ n) : Row3 e f base w (.slice a k c) (xs.take k) := by
  rcases h.2 with ⟨h1, h2⟩ | ⟨g, cap, cur, h1, hb, hh, h3, h4, h5, h6⟩
  · injection h1 with h1 h0 hc
    subst h1 h0 hc
    obtain rfl : k = 0 := by omega
    exact ⟨by simp, .inl ⟨rfl, by simp⟩⟩
  · injection h1 with h1 h0 hc
    subst h1 h0 hc
    have hl : (xs.take k).length = k := by rw [List.length_take]; omega
    refine ⟨fm_len hf _, .inr ⟨g, c, cur, by rw [hl], hb, hh, by omega, h4, h5, ?_⟩⟩
    rw [hl, ← fm_take hf, ← h6, List.take_take]
    congr 1
    omega

/-! A set of numbers. -/
structure KeysAre (es : List MapEntry) (ks : List Int) : Prop where
  each : ∀ e ∈ es, ∃ x, e.key = .int .i64 x ∧ e.val = .agg #[] ∧ x ∈ ks
  all : ∀ x ∈ ks, ∃ e ∈ es, e.key = .int .i64 x
def SetAt (b : Nat) (ks : List Int) (w : World) : Prop := ∃ es clock, w.heap[b]? = some (.map es clock) ∧ KeysAre es.toList ks
theorem SetAt.lt {b : Nat} {ks : List Int} {w : World} (h : SetAt b ks w) : b < w.heap.size := by
  obtain ⟨es, c, h, _⟩ := h
  exact (Array.getElem?_eq_some_iff.1 h).1
theorem SetAt.same {b : Nat} {ks : List Int} {w w' : World} (h : SetAt b ks w) (e : w'.heap[b]? = w.heap[b]?) : SetAt b ks w' := by
  obtain ⟨es, c, h, m⟩ := h
  exact ⟨es, c, e.trans h, m⟩
theorem SetAt.new (w : World) (c : Nat) : SetAt w.heap.size [] (w.alloc (.map #[] c)) :=
  ⟨#[], c, (MapKept.heap_alloc w _).1, ⟨by simp, by simp⟩⟩
theorem findI (k : Int) : ∀ (es : List MapEntry) (n : Nat), (∀ e ∈ es, ∃ x, e.key = .int .i64 x) →
    (Instr.findNow (.int .i64) (.int .i64 k) es n = some none ∧ ∀ e ∈ es, e.key ≠ .int .i64 k) ∨
    ∃ j e, Instr.findNow (.int .i64) (.int .i64 k) es n = some (some (n + j, e.val)) ∧ e ∈ es ∧ e.key = .int .i64 k
  | [], n, _ => .inl ⟨by simp [Instr.findNow], by simp⟩
  | e :: es, n, hall => by
    obtain ⟨x, hx⟩ := hall e (by simp)
    by_cases hk : k = x
    · refine .inr ⟨0, e, ?_, by simp, by rw [hx, hk]⟩
      simp [Instr.findNow, Instr.sameNow, hx, hk]
    · have hne : e.key ≠ .int .i64 k := by rw [hx]; intro h; injection h with _ h; exact hk h.symm
      have hs : Instr.sameNow (.int .i64) (.int .i64 k) e.key = some false := by rw [hx]; simp [Instr.sameNow, hk]
      rcases findI k es (n + 1) (fun y hy => hall y (by simp [hy])) with ⟨h1, h2⟩ | ⟨j, e', h1, h2, h3⟩
      · refine .inl ⟨by simp [Instr.findNow, hs, h1], fun y hy => ?_⟩
        rcases List.mem_cons.1 hy with rfl | hy
        · exact hne
        · exact h2 y hy
      · exact .inr ⟨j + 1, e', by simp [Instr.findNow, hs, h1, Nat.add_assoc, Nat.add_comm 1 j], by simp [h2], h3⟩
theorem underIS : Try.prog.underlying 48 = some (.map 3 90) := by kernel_rfl
theorem underInt : Try.prog.underlying 3 = some (.int .i64) := by kernel_rfl
theorem zeroUnit (w : World) : (zeroValue 90).run Try.prog w = .ok (.agg #[]) w := by kernel_rfl
theorem chkInt1 (em : Bool) (n : Nat) (x : Int) (w : World) : (Instr.checkKey em (n + 1) 3 (.int .i64 x)).run Try.prog w = .ok () w := by
  simp [Instr.checkKey, run_underlying underInt, Result.andThen]
theorem chkInt (em : Bool) (x : Int) (w : World) : (Instr.checkKey em 10000 3 (.int .i64 x)).run Try.prog w = .ok () w := chkInt1 em 9999 x w
theorem findKeyI (k : Int) (w : World) (es : List MapEntry) (r : Option (Nat × Value)) (h : Instr.findNow (.int .i64) (.int .i64 k) es 0 = some r) : (Instr.findKey 3 (.int .i64 k) es).run Try.prog w = .ok r w := by
  simp [Instr.findKey, run_underlying underInt, h, Result.andThen]
set_option maxRecDepth 20000 in
/-- '_, there := m[k]'. -/
theorem SetAt.look {b : Nat} {ks : List Int} {w : World} (h : SetAt b ks w) (k : Int) :
    (Instr.lookup 48 (.map (some b)) (.int .i64 k) true).run Try.prog w = .ok (.tuple #[.agg #[], .bool (decide (k ∈ ks))]) w := by
  obtain ⟨es, c, hb, m⟩ := h
  rcases findI k es.toList 0 (fun e he => by obtain ⟨x, h, _⟩ := m.each e he; exact ⟨x, h⟩) with ⟨h1, h2⟩ | ⟨j, e, h1, h2, h3⟩
  · have : decide (k ∈ ks) = false := decide_eq_false (fun hk => by obtain ⟨e, he, h⟩ := m.all k hk; exact h2 e he h)
    simp [Instr.lookup, run_underlying underIS, MapKept.run_getObj_map hb, chkInt, findKeyI k w _ _ h1, Result.andThen, this]
  · obtain ⟨x, hx, hv, hm⟩ := m.each e h2
    obtain rfl : x = k := by rw [h3] at hx; injection hx with _ hx; exact hx.symm
    have : decide (x ∈ ks) = true := decide_eq_true hm
    simp [Instr.lookup, run_underlying underIS, MapKept.run_getObj_map hb, chkInt, findKeyI x w _ _ h1, hv, Result.andThen, this]
theorem setBlock_grown (w : World) (b : Nat) (o : Obj) : w.grownBy (ChangeMaps.setBlock w b o) (some b) := by
  refine ⟨rfl, rfl, rfl, by simp [ChangeMaps.setBlock], fun k _ hk => ?_⟩
  simp only [ChangeMaps.setBlock]
  rw [Array.getElem?_setIfInBounds]
  split
  · rename_i e; exact absurd (by rw [e]) hk
  · rfl
theorem setBlock_at {w : World} {b : Nat} (o : Obj) (h : b < w.heap.size) : (ChangeMaps.setBlock w b o).heap[b]? = some o := by simp [ChangeMaps.setBlock, h]
set_option maxRecDepth 20000 in
/-- 'm[k] = struct{}{}', where k is new. -/
theorem SetAt.put {b : Nat} {ks : List Int} {w : World} (h : SetAt b ks w) (k : Int) (hk : k ∉ ks) :
    ∃ w', (Instr.mapUpdate 48 (.map (some b)) (.int .i64 k) (.agg #[])).run Try.prog w = .ok () w' ∧ SetAt b (ks ++ [k]) w' ∧ w.grownBy w' (some b) := by
  obtain ⟨es, c, hb, m⟩ := h
  have hbl : b < w.heap.size := (Array.getElem?_eq_some_iff.1 hb).1
  rcases findI k es.toList 0 (fun e he => by obtain ⟨x, h, _⟩ := m.each e he; exact ⟨x, h⟩) with ⟨h1, h2⟩ | ⟨j, e, h1, h2, h3⟩
  · refine ⟨ChangeMaps.setBlock w b (.map (es.push { key := .int .i64 k, val := .agg #[], born := c }) (c + 1)), by simp [Instr.mapUpdate, run_underlying underIS, MapKept.run_getObj_map hb, chkInt, findKeyI k w _ _ h1, MapKept.run_setObj_map _ hb, Result.andThen, ChangeMaps.setBlock], ?_, setBlock_grown _ _ _⟩
    refine ⟨_, _, setBlock_at _ hbl, ?_, ?_⟩
    · intro e he
      rw [Array.toList_push] at he
      rcases List.mem_append.1 he with he | he
      · obtain ⟨x, a1, a2, a3⟩ := m.each e he
        exact ⟨x, a1, a2, by simp [a3]⟩
      · rw [List.mem_singleton.1 he]; exact ⟨k, rfl, rfl, by simp⟩
    · intro x hx
      rw [Array.toList_push]
      rcases List.mem_append.1 hx with hx | hx
      · obtain ⟨e, he, h⟩ := m.all x hx
        exact ⟨e, by simp [he], h⟩
      · rw [List.mem_singleton.1 hx]; exact ⟨_, List.mem_append.2 (.inr (List.mem_singleton.2 rfl)), rfl⟩
  · obtain ⟨x, hx, _, hm⟩ := m.each e h2
    rw [h3] at hx
    injection hx with _ hx
    exact absurd (by rw [hx]; exact hm) hk
end Go.Proofs.Ytcnhcdlbippjoaa
