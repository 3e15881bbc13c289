/-
  Ours: granted, of a book.
-/
import Derived.Test.YtgdmkcbbomfmdaaGreatDoorLedOwn
import Derived.Test.YtgdmkcbbomfmdaaGreatDoorCoM
import Derived.Test.YtgdmkcbbomfmdaaGreatDoorLoPln
import Derived.Deep.CutRange
namespace Go.Proofs.YtgdmkcbbomfmdaaGreatDoor
open Go.RowKit

structure KD (w : World) (bs : List (Nat × TypeId × List Value)) (w' : World) : Prop where
  bb : Below w.heap.size w w'
  bk : ∀ (k : Nat) (q : Nat × TypeId × List Value), bs[k]? = some q → w.heap.size ≤ q.1 ∧ Blk q.1 q.2.1 q.2.2 w'
  nd : ∀ (j k : Nat) (q q' : Nat × TypeId × List Value), bs[j]? = some q → bs[k]? = some q' → q.1 = q'.1 → j = k
section
variable {w w1 w2 : World} {bs : List (Nat × TypeId × List Value)} {q : Nat × TypeId × List Value}
theorem KD.at (h : KD w bs w1) (k : Nat) (hq : bs[k]? = some q) : Blk q.1 q.2.1 q.2.2 w1 := (h.bk k q hq).2
theorem KD.cell (h : KD w bs w1) (k i : Nat) (hq : bs[k]? = some q) (u : Value) (hu : q.2.2[i]? = some u) : w1.cell? ⟨q.1, i, none⟩ = some u := (h.at k hq).cell i u hu
theorem KD.fz (h : KD w bs w1) (k i : Nat) (hq : bs[k]? = some q) : w1.frozen? ⟨q.1, i, none⟩ = false := (h.at k hq).fz i
theorem KD.lt (h : KD w bs w1) (k : Nat) (hq : bs[k]? = some q) : q.1 < w1.heap.size := (h.at k hq).lt
theorem KD.call (h : KD w bs w1) (b : Below w1.heap.size w1 w2) : KD w bs w2 := ⟨below_trans h.bb b, fun k q hq => ⟨(h.bk k q hq).1, (h.bk k q hq).2.below b⟩, h.nd⟩
theorem KD.drewN (h : KD w bs w1) (n : Nat) : KD w bs (w1.drewN n) := ⟨below_drewN h.bb n, fun k q hq => ⟨(h.bk k q hq).1, (h.bk k q hq).2.drewN n⟩, h.nd⟩
theorem KD.drew (h : KD w bs w1) : KD w bs w1.drew := h.drewN 1
theorem KD.start (w : World) : KD w [] w := ⟨Below.refl _ _, fun k q hq => by simp at hq, fun j k q q' hq => by simp at hq⟩
theorem KD.new (h : KD w bs w1) (T : TypeId) (cs : List Value) : KD w (bs ++ [(w1.heap.size, T, cs)]) (w1.alloc (.cells cs.toArray T)) := by
  have h1 := h.call (below_alloc w1 (.cells cs.toArray T))
  refine ⟨h1.bb, fun k q hq => ?_, fun j k q q' hq hq' e => ?_⟩
  · by_cases hk : k < bs.length
    · rw [List.getElem?_append_left hk] at hq
      exact h1.bk k q hq
    · rw [List.getElem?_append_right (by omega)] at hq
      obtain ⟨hh, rfl⟩ : k - bs.length = 0 ∧ (w1.heap.size, T, cs) = q := by
        cases hd : k - bs.length with
        | zero => rw [hd] at hq; simpa using hq
        | succ m => rw [hd] at hq; simp at hq
      exact ⟨h.bb.size, Blk.new T cs w1⟩
  · have key : ∀ j q, (bs ++ [(w1.heap.size, T, cs)])[j]? = some q → (j < bs.length ∧ q.1 < w1.heap.size ∧ bs[j]? = some q) ∨ (j = bs.length ∧ q.1 = w1.heap.size) := fun j q hq => by
      by_cases hk : j < bs.length
      · rw [List.getElem?_append_left hk] at hq
        exact .inl ⟨hk, (h.bk j q hq).2.lt, hq⟩
      · rw [List.getElem?_append_right (by omega)] at hq
        cases hd : j - bs.length with
        | zero => rw [hd] at hq; simp at hq; exact .inr ⟨by omega, by rw [← hq]⟩
        | succ m => rw [hd] at hq; simp at hq
    rcases key j q hq with ⟨_, lt1, b1⟩ | ⟨e1, s1⟩
    · rcases key k q' hq' with ⟨_, lt2, b2⟩ | ⟨e2, s2⟩
      · exact h.nd j k q q' b1 b2 e
      · omega
    · rcases key k q' hq' with ⟨_, lt2, b2⟩ | ⟨e2, s2⟩
      · omega
      · omega
theorem KD.store (h : KD w bs w1) (k : Nat) (hq : bs[k]? = some q) {cs : List Value} (nb : Blk q.1 q.2.1 cs w2) (g : w1.grownBy w2 (some q.1)) : KD w (bs.set k (q.1, q.2.1, cs)) w2 := by
  have hk : k < bs.length := (List.getElem?_eq_some_iff.1 hq).1
  have ge := (h.bk k q hq).1
  refine ⟨h.bb.grown g h.bb.size (fun x e => by injection e with e; omega), fun j p hp => ?_, fun j m p p' hp hp' e => ?_⟩
  · rw [List.getElem?_set] at hp
    by_cases hj : k = j
    · rw [if_pos hj, if_pos hk] at hp
      injection hp with hp
      subst hp
      exact ⟨ge, nb⟩
    · rw [if_neg hj] at hp
      refine ⟨(h.bk j p hp).1, (h.bk j p hp).2.grown g (fun e => ?_)⟩
      injection e with e
      exact hj (h.nd k j q p hq hp e)
  · have key : ∀ (j : Nat) (p : Nat × TypeId × List Value), (bs.set k (q.1, q.2.1, cs))[j]? = some p → ∃ r : Nat × TypeId × List Value, bs[j]? = some r ∧ r.1 = p.1 := fun j p hp => by
      rw [List.getElem?_set] at hp
      by_cases hj : k = j
      · rw [if_pos hj, if_pos hk] at hp
        injection hp with hp
        subst hp
        exact ⟨q, by rw [← hj]; exact hq, rfl⟩
      · rw [if_neg hj] at hp
        exact ⟨p, hp, rfl⟩
    obtain ⟨r, hr, e1⟩ := key j p hp
    obtain ⟨r', hr', e2⟩ := key m p' hp'
    exact h.nd j m r r' hr hr' (by omega)
theorem KD.set (h : KD w bs w1) (k i : Nat) (hq : bs[k]? = some q) (u : Value) : KD w (bs.set k (q.1, q.2.1, q.2.2.set i u)) (w1.setCell ⟨q.1, i, none⟩ u) :=
  h.store k hq ((h.at k hq).set u) (setCell_grown _ _ _ _)
end
theorem KD.one (w : World) (T : TypeId) (cs : List Value) : KD w [(w.heap.size, T, cs)] (w.alloc (.cells cs.toArray T)) := (KD.start w).new T cs
theorem kd_size_al (w : World) (o : Obj) : (w.alloc o).heap.size = w.heap.size + 1 := by simp
theorem KD.two (w : World) (T T2 : TypeId) (cs cs2 : List Value) : KD w [(w.heap.size, T, cs), (w.heap.size + 1, T2, cs2)] ((w.alloc (.cells cs.toArray T)).alloc (.cells cs2.toArray T2)) := by
  have := (KD.one w T cs).new T2 cs2
  rwa [kd_size_al] at this
theorem KD.three (w : World) (T T2 T3 : TypeId) (cs cs2 cs3 : List Value) : KD w [(w.heap.size, T, cs), (w.heap.size + 1, T2, cs2), (w.heap.size + 1 + 1, T3, cs3)] (((w.alloc (.cells cs.toArray T)).alloc (.cells cs2.toArray T2)).alloc (.cells cs3.toArray T3)) := by
  have := (KD.two w T T2 cs cs2).new T3 cs3
  rwa [kd_size_al, kd_size_al] at this
theorem KD.four (w : World) (T T2 T3 T4 : TypeId) (cs cs2 cs3 cs4 : List Value) : KD w [(w.heap.size, T, cs), (w.heap.size + 1, T2, cs2), (w.heap.size + 1 + 1, T3, cs3), (w.heap.size + 1 + 1 + 1, T4, cs4)] ((((w.alloc (.cells cs.toArray T)).alloc (.cells cs2.toArray T2)).alloc (.cells cs3.toArray T3)).alloc (.cells cs4.toArray T4)) := by
  have := (KD.three w T T2 T3 cs cs2 cs3).new T4 cs4
  rwa [kd_size_al, kd_size_al, kd_size_al] at this
end Go.Proofs.YtgdmkcbbomfmdaaGreatDoor

namespace Go.Proofs.YtgdmkcbbomfmdaaGreatDoor
open Go.RowKit LedM CoM
namespace LoM
structure Lo where
  id : Int
  tm : List Int
  pl : Value
  bk : List Int
  cs : Cs
  dy : Int
  ca : Int
  ap : Int
  la : List Int
  hl : Bool
  co : Int
  tr : Int
end LoM
open LoM
def i5 (l : List Int) : List Value := [.int .i64 (l.getD 0 0), .int .i64 (l.getD 1 0), .int .i64 (l.getD 2 0), .int .i64 (l.getD 3 0), .int .i64 (l.getD 4 0)]
def i6 (l : List Int) : List Value := [.int .i64 (l.getD 0 0), .int .i64 (l.getD 1 0), .int .i64 (l.getD 2 0), .int .i64 (l.getD 3 0), .int .i64 (l.getD 4 0), .int .i64 (l.getD 5 0)]
def i12 (l : List Int) : List Value := [.int .i64 (l.getD 0 0), .int .i64 (l.getD 1 0), .int .i64 (l.getD 2 0), .int .i64 (l.getD 3 0), .int .i64 (l.getD 4 0), .int .i64 (l.getD 5 0), .int .i64 (l.getD 6 0), .int .i64 (l.getD 7 0), .int .i64 (l.getD 8 0), .int .i64 (l.getD 9 0), .int .i64 (l.getD 10 0), .int .i64 (l.getD 11 0)]
/-- A loan's 46 cells. -/
def lnL (L : Lo) : List Value := .int .i64 L.id :: (i6 L.tm ++ (L.pl :: (i12 L.bk ++ (csL L.cs ++ (.int .i64 L.dy :: .int .i64 L.ca :: .int .i64 L.ap :: (i5 L.la ++ [.bool L.hl, .int .i64 L.co, .int .i64 L.tr]))))))
/-- An outcome's 53. -/
def ouL (L : Lo) (pa : List Int) (nt : Value) (k : Int) : List Value := lnL L ++ (i5 pa ++ [nt, .int .i64 k])
theorem lnL_len (L : Lo) : (lnL L).length = 46 := rfl
theorem ouL_len (L : Lo) (pa : List Int) (nt : Value) (k : Int) : (ouL L pa nt k).length = 53 := rfl
theorem sizeLn (L : Lo) : (Tryz.prog.info? 37).map (·.size) = some (lnL L).length := by show _ = some 46; kernel_rfl
theorem sizeOu (L : Lo) (pa : List Int) (nt : Value) (k : Int) : (Tryz.prog.info? 41).map (·.size) = some (ouL L pa nt k).length := by show _ = some 53; kernel_rfl
theorem ints_one {l : List Value} {n : Nat} {f : Nat → Int} (h : l = (List.range n).map fun i => .int .i64 (f i)) : ∀ v ∈ l, v.oneCell' = true := fun v hv => by
  rw [h] at hv
  obtain ⟨i, _, rfl⟩ := List.mem_map.1 hv
  rfl
theorem lnL_one {L : Lo} (hp : L.pl.oneCell' = true) : ∀ v ∈ lnL L, v.oneCell' = true := fun v hv => by
  have h5 : ∀ l : List Int, ∀ v ∈ i5 l, v.oneCell' = true := fun l => ints_one (n := 5) (f := fun i => l.getD i 0) rfl
  have h6 : ∀ l : List Int, ∀ v ∈ i6 l, v.oneCell' = true := fun l => ints_one (n := 6) (f := fun i => l.getD i 0) rfl
  have h12 : ∀ l : List Int, ∀ v ∈ i12 l, v.oneCell' = true := fun l => ints_one (n := 12) (f := fun i => l.getD i 0) rfl
  unfold lnL at hv
  simp only [List.mem_cons, List.mem_append] at hv
  rcases hv with rfl | h | rfl | h | h | rfl | rfl | rfl | h | h
  · rfl
  · exact h6 _ v h
  · exact hp
  · exact h12 _ v h
  · unfold csL at h; simp at h; rcases h with rfl | rfl | rfl | rfl | rfl | rfl | rfl | rfl | rfl | rfl | rfl | rfl | rfl | rfl | rfl <;> rfl
  · rfl
  · rfl
  · rfl
  · exact h5 _ v h
  · simp at h; rcases h with rfl | rfl | rfl <;> rfl
theorem ouL_one {L : Lo} {pa : List Int} {nt : Value} {k : Int} (hp : L.pl.oneCell' = true) (hn : nt.oneCell' = true) : ∀ v ∈ ouL L pa nt k, v.oneCell' = true := fun v hv => by
  rcases List.mem_append.1 hv with h | h
  · exact lnL_one hp v h
  · rcases List.mem_append.1 h with h | h
    · exact ints_one (n := 5) (f := fun i => pa.getD i 0) rfl v h
    · simp at h; rcases h with rfl | rfl
      · exact hn
      · rfl
namespace LoK
section
variable {P : Program}
theorem at_loadT {ops : Array Oper} {rest : List Oper} {a : Act} {w : World} {Q : Exit → Act → World → Prop} {dst : Option Tmp} (ty : TypeId) {t : TypeId} {x : Operand} {pos : String} {af : Array Edge}
    (h : wpList P ops Q ({ dst := dst, op := .load ty x, type := t, pos := pos, after := af, guard := none } :: rest) a w) : wpList P ops Q ({ dst := dst, op := .load ty x, type := t, pos := pos, after := af, guard := none } :: rest) a w := h
theorem at_store {ops : Array Oper} {rest : List Oper} {a : Act} {w : World} {Q : Exit → Act → World → Prop} {dst : Option Tmp} {ty t : TypeId} {x y : Operand} {pos : String} {af : Array Edge}
    (h : wpList P ops Q ({ dst := dst, op := .store ty x y, type := t, pos := pos, after := af, guard := none } :: rest) a w) : wpList P ops Q ({ dst := dst, op := .store ty x y, type := t, pos := pos, after := af, guard := none } :: rest) a w := h
theorem at_build {ops : Array Oper} {rest : List Oper} {a : Act} {w : World} {Q : Exit → Act → World → Prop} {dst : Option Tmp} (ty : TypeId) {t : TypeId} {ps : Array (Nat × Operand)} {pos : String} {af : Array Edge}
    (h : wpList P ops Q ({ dst := dst, op := .build ty ps, type := t, pos := pos, after := af, guard := none } :: rest) a w) : wpList P ops Q ({ dst := dst, op := .build ty ps, type := t, pos := pos, after := af, guard := none } :: rest) a w := h
theorem step_build2 {ops : Array Oper} {rest : List Oper} {op : Oper} {a : Act} {w : World} {Q : Exit → Act → World → Prop} (hgd : op.guard = none) (ty : TypeId) (i j : Nat) (x y : Operand) (ho : op.op = .build ty #[(i, x), (j, y)]) (u z : Value) (hx : a.eval x = u) (hy : a.eval y = z) (v : Value)
    (hr : (Instr.build ty #[(i, u), (j, z)]).run P w = .ok v w) (h : wpList P ops Q rest (a.put op.dst v) w) : wpList P ops Q (op :: rest) a w :=
  wpList_plain hgd fun _ hK => by
    unfold Oper.wp execOp
    simp only [ho, hx, hy, List.map_toArray, List.map_cons, List.map_nil, Sem.run_bind, Sem.run_pure, Result.andThen_ok, hr]
    exact hK _ _ h
end
theorem op_putC {ops : Array Oper} {op : Oper} {a : Act} {wr : World} {K : Act → World → Prop} {Q : Exit → Act → World → Prop} {E : Prop} {T : TypeId} {zs : List Value} (vs : List Value) (hl : vs.length = zs.length) (hi : (Tryz.prog.info? T).map (·.size) = some vs.length) (h1 : ∀ v ∈ vs, v.oneCell' = true) (hgd : op.guard = Option.none) (x y : Operand) (ho : op.op = .store T x y)
    (G : Nat) (hx : a.eval x = .pointer (some ⟨G, 0, Option.none⟩)) (hy : a.eval y = .agg vs.toArray) (hb : Blk G T zs wr)
    (h : ∀ w', Blk G T vs w' → wr.grownBy w' (some G) → K (a.put op.dst undef) w') : if Region.wanted op (yielded ops a.tmps) = true then Oper.wp Tryz.prog op a wr K Q else E := by
  have hwd : Region.wanted op (yielded ops a.tmps) = true := by simp [Region.wanted, hgd]
  rw [if_pos hwd]
  unfold Oper.wp execOp
  simp only [ho, hx, hy, Instr.storeAt, Instr.sureAddr, Sem.run_bind, Sem.run_pure, Result.andThen_ok, run_storeVar_blk wr G 0 T T zs vs hb (by omega) hi h1]
  have nb := setRow_heap wr G _ (zs.take 0 ++ vs ++ zs.drop (0 + vs.length)).toArray T _ hb
  have g := setRow_grown wr G (zs.take 0 ++ vs ++ zs.drop (0 + vs.length)).toArray
  have e : zs.take 0 ++ vs ++ zs.drop (0 + vs.length) = vs := by rw [Nat.zero_add, hl, List.drop_length]; simp
  rw [e] at nb g ⊢
  exact h _ nb g
theorem yieldsIf_build2 {P : Program} {ops : Array Oper} {S : World → Prop} {op : Oper} {a : Act} (hw : Region.wanted op (yielded ops a.tmps) = true) (ty : TypeId) (i j : Nat) (x y : Operand) (ho : op.op = .build ty #[(i, x), (j, y)]) (u z v : Value) (hx : a.eval x = u) (hy : a.eval y = z)
    (hr : ∀ w, (Instr.build ty #[(i, u), (j, z)]).run P w = .ok v w) : YieldsIf P ops S op v a := .inl ⟨hw, fun w _ => by
  unfold execOp
  simp only [ho, hx, hy, List.map_toArray, List.map_cons, List.map_nil, Sem.run_bind, Sem.run_pure, Result.andThen_ok, hr]⟩
end LoK
theorem built_ou (L : Lo) (k : Int) : Tryz.prog.built 41 [(0, .agg (lnL L).toArray), (3, .int .i64 k)] = some (ouL L [] (.slice none 0 0) k).toArray := by kernel_rfl
theorem build_ou (L : Lo) (k : Int) (w : World) : (Instr.build 41 #[(0, .agg (lnL L).toArray), (3, .int .i64 k)]).run Tryz.prog w = .ok (.agg (ouL L [] (.slice none 0 0) k).toArray) w := run_build w _ _ _ (built_ou L k)
/-- A store over a whole block leaves just what was stored. -/
theorem blk_over {G n : Nat} {ty : TypeId} {cs vs : List Value} {w : World} (h1 : cs.length = n) (h2 : vs.length = n) (h : Blk G ty (cs.take 0 ++ vs ++ cs.drop (0 + vs.length)) w) : Blk G ty vs w := by
  rw [List.take_zero, List.nil_append, List.drop_of_length_le (by omega), List.append_nil] at h
  exact h
end Go.Proofs.YtgdmkcbbomfmdaaGreatDoor

namespace Go.Proofs.YtgdmkcbbomfmdaaGreatDoor
open Go.RowKit LedM LoM
theorem sizeBk (l : List Int) : (Tryz.prog.info? 31).map (·.size) = some (i12 l).length := by show _ = some 12; kernel_rfl
theorem i12_one (l : List Int) : ∀ v ∈ i12 l, v.oneCell' = true := ints_one (n := 12) (f := fun i => l.getD i 0) rfl
abbrev bkZ : List Value := [.int .i64 0, .int .i64 0, .int .i64 0, .int .i64 0, .int .i64 0, .int .i64 0, .int .i64 0, .int .i64 0, .int .i64 0, .int .i64 0, .int .i64 0, .int .i64 0]
set_option maxHeartbeats 4000000 in
theorem granted_ok (l : List Int) (w : World) : Calls Tryz.prog 47 #[.agg (i12 l).toArray, .int .i64 0] w fun e w' => e = .returned (.agg (i12 l).toArray) ∧ Below w.heap.size w w' := by
  have S1 : Hid (KD w [(w.heap.size, 31, i12 l), (w.heap.size + 1, 31, bkZ)] ((w.alloc (.cells (i12 l).toArray 31)).alloc (.cells #[.int .i64 0, .int .i64 0, .int .i64 0, .int .i64 0, .int .i64 0, .int .i64 0, .int .i64 0, .int .i64 0, .int .i64 0, .int .i64 0, .int .i64 0, .int .i64 0] 31))) := KD.two w _ _ _ bkZ
  go_enter Tryz.func47, Tryz.ntmps47
  go_upto_region 1 with fail
  generalize (w.alloc (.cells (i12 l).toArray 31)).alloc (.cells #[.int .i64 0, .int .i64 0, .int .i64 0, .int .i64 0, .int .i64 0, .int .i64 0, .int .i64 0, .int .i64 0, .int .i64 0, .int .i64 0, .int .i64 0, .int .i64 0] 31) = w1 at *
  go_wp2_with fail
  refine (insist_ok _).mono ?_
  rintro e w2 ⟨rfl, hw⟩
  subst hw
  go_wp2_with (first
    | ((with_reducible refine LoK.at_loadT 31 ?_); refine step_load rfl 31 _ rfl w.heap.size 0 rfl (i12 l) _ (Blk.all (S1.out.at 0 rfl)) Tryz.underlying31 rfl (sizeBk _) ?_)
    | ((with_reducible refine LoK.at_store ?_); refine step_store rfl 31 _ _ rfl (w.heap.size + 1) 0 31 bkZ (i12 l) rfl rfl (S1.out.at 1 rfl) (Nat.le_refl 12) (sizeBk _) (i12_one _) ?_; intro w3 nb gb))
  have S3 := S1.out.store 1 rfl (blk_over (n := 12) rfl rfl nb) gb
  refine ret_blk rfl rfl (w.heap.size + 1) 31 (i12 l) _ rfl (S3.at 1 rfl) Tryz.underlying31 rfl (sizeBk _) ?_
  exact ⟨rfl, S3.bb⟩
theorem granted_no (l : List Int) (k : Int) (hk : ¬ k = 0) (w : World) : Calls Tryz.prog 47 #[.agg (i12 l).toArray, .int .i64 k] w fun e w' => e = gaveUp k ∧ Below w.heap.size w w' := by
  go_enter Tryz.func47, Tryz.ntmps47
  go_wp2_with fail
  refine (insist_no k hk _).mono ?_
  rintro e w2 ⟨rfl, hw⟩
  subst hw
  go_wp2_with fail
  refine ⟨rfl, rfl, ?_⟩
  exact below_trans (below_alloc w _) (below_alloc _ _)
end Go.Proofs.YtgdmkcbbomfmdaaGreatDoor
