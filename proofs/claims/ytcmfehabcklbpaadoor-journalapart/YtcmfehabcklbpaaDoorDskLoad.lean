/-
  Ours: how a disk lies in memory; loaded, Load, New.
-/
import Derived.Test.YtcmfehabcklbpaaDoorDskOwn
namespace Go.Proofs.YtcmfehabcklbpaaDoor
open Go.RowKit

theorem bodyPost_cell {P : Program} {fn : Func} {R : Ending → World → Prop} {a : Act} {w : World} {p : Tmp} {ty : TypeId} (h : fn.results = #[.cell p ty]) (hdf : a.defers = [])
    (g : Nat) (t : TypeId) (cs : Array Value) (fr : Nat × Nat) (d : TypeDesc) (hp : a.tmps.getD p undef = .pointer (some ⟨g, 0, none⟩)) (hg : w.heap[g]? = some (.cells cs t fr))
    (hu : P.underlying ty = some d) (hd : (match d with | .struct _ | .array _ _ => true | _ => false) = true) (hi : (P.info? ty).map (·.size) = some cs.size)
    (hR : R (.returned (.agg cs)) w) : bodyPost P fn R .ret a w :=
  bodyPost_ret_by (results_cell_row h _ w g t cs fr d hp hg hu hd hi) hdf hR
theorem grownBy_to_below {w a b : World} {G : Nat} (h : Below w.heap.size w a) (k : a.grownBy b (some G)) (hG : w.heap.size ≤ G) : Below w.heap.size w b :=
  ⟨k.os.trans h.os, k.tape.trans h.tape, k.output.trans h.output, Nat.le_trans h.size k.size, fun i hi => (k.block i (Nat.lt_of_lt_of_le hi h.size) (fun e => by injection e with e; omega)).trans (h.block i hi)⟩

set_option maxRecDepth 20000 in
set_option maxHeartbeats 1000000 in
theorem loaded_at (bs : List Nat) (v : Value) (w : World) (hl : bs.length ≤ 1000000000000) (h : RdB w v bs) : Calls Tryd.prog 42 #[v] w fun e w' => ∃ a c, e = .returned (.agg #[.slice a (bs.take 16777216).length c, .int .i64 ((bs.take 16777216).length : Int)]) ∧ RowB 5 w.heap.size w' (.slice a (bs.take 16777216).length c) (bs.take 16777216) ∧ Below w.heap.size w w' := by
  obtain ⟨ao, cap, ev, hcap, _⟩ := h.len
  obtain ⟨L, hL⟩ : ∃ L, bs.length = L := ⟨_, rfl⟩
  rw [List.length_map, hL] at ev hcap
  subst ev
  have BA := below_alloc w (.cells #[.slice none 0 0, .int .i64 0] 63)
  have D1 := Blk.new 63 [.slice none 0 0, .int .i64 0] w
  have h1 := Rd.later h BA
  obtain ⟨m, hm⟩ : ∃ m, min L 16777216 = m := ⟨_, rfl⟩
  have hc1 : RdB (w.alloc (.cells #[.slice none 0 0, .int .i64 0] 63)) (.slice ao m cap) (bs.take 16777216) := by
    have := Rd.cut h1 (k := m) (by omega)
    rw [← List.map_take] at this
    have e : bs.take m = bs.take 16777216 := by
      rw [← hm, ← hL, Nat.min_comm, ← List.take_eq_take_min]
    rw [e] at this
    exact this
  have hlm : (bs.take 16777216).length = m := by rw [List.length_take, hL]; omega
  have CP : Hid (∀ w, RdB w (.slice ao m cap) (bs.take 16777216) → Calls Tryd.prog 41 #[.slice ao m cap] w (NewB w (bs.take 16777216))) := fun w h => dcopied_at _ _ w (by omega) h
  have HLM : Hid ((bs.take 16777216).length = m) := hlm
  rw [hlm]
  have hmc : m ≤ cap := by omega
  have hm0 : m ≤ 16777216 := by omega
  go_enter Tryd.func42, Tryd.ntmps42
  have key : (if ((16777216 : Int) < (L : Int)) then (16777216 : Int) else (L : Int)) = (m : Int) := by split <;> omega
  clear hm
  go_wp2_with fail
  refine (CP.out _ hc1).mono ?_
  rintro e w2 ⟨v2, rfl, r2, b2⟩
  obtain ⟨a2, c2, e2, _, _⟩ := r2.rd.len
  rw [List.length_map, HLM.out] at e2
  subst e2
  obtain ⟨Q, hQ⟩ : ∃ Q, w.heap.size = Q := ⟨_, rfl⟩
  have SQ : Q + 1 ≤ (w.alloc (.cells #[.slice none 0 0, .int .i64 0] 63)).heap.size := by rw [← hQ]; simp
  have D2 := D1.below b2
  have W2 := below_trans BA b2
  rw [hQ] at D2 ⊢
  have hQ' : Hid (w.heap.size = Q) := hQ
  have g3 := setCell_grown w2 Q 0 (.slice a2 m c2)
  have D3 : Blk Q 63 [.slice a2 m c2, .int .i64 0] (w2.setCell ⟨Q, 0, none⟩ (.slice a2 m c2)) := Blk.set (i := 0) D2 (.slice a2 m c2)
  have g4 := setCell_grown (w2.setCell ⟨Q, 0, none⟩ (.slice a2 m c2)) Q 1 (.int .i64 (m : Int))
  have D4 : Blk Q 63 [.slice a2 m c2, .int .i64 (m : Int)] ((w2.setCell ⟨Q, 0, none⟩ (.slice a2 m c2)).setCell ⟨Q, 1, none⟩ (.int .i64 (m : Int))) := Blk.set (i := 1) D3 (.int .i64 (m : Int))
  have g34 := grownBy_trans g3 g4
  have R4 : Hid (RowB 5 _ _ _ _) := RowV.mono (RowV.kept r2 g34 (fun g hg e => by have := r2.block_ge hg; injection e with e; omega)) (Nat.le_of_succ_le SQ)
  have W4 : Hid (Below _ _ _) := grownBy_to_below W2 g34 (Nat.le_of_eq hQ)
  have B4 : Hid (Blk _ _ _ _) := D4
  have l0 := D2.cell 0 _ rfl
  have l1 := D2.cell 1 _ rfl
  have f0 := D2.fz 0
  have f1 := D2.fz 1
  clear D1 D2 D3 D4 g3 g4 g34 W2 r2 b2 BA hQ SQ h h1 hc1 CP key
  go_wp2_with fail
  generalize (w2.setCell ⟨Q, 0, none⟩ (.slice a2 m c2)).setCell ⟨Q, 1, none⟩ (.int .i64 (m : Int)) = W9 at *
  exact bodyPost_cell rfl rfl Q _ _ _ _ rfl B4.out Tryd.underlying63 rfl (by kernel_rfl) ⟨a2, c2, rfl, by rw [hQ'.out]; exact R4.out, W4.out⟩

/-- A disk: of both files all bytes and how many are durable; the crashes that wait; the writes; is it down? -/
structure Dk where
  b0 : List Nat
  d0 : Nat
  b1 : List Nat
  d1 : Nat
  q : List (Int × Int)
  wr : Int
  dn : Bool
def qv (q : List (Int × Int)) : List Value := q.flatMap fun c => [.int .i64 c.1, .int .i64 c.2]
abbrev RowQ (w : World) (v : Value) (q : List (Int × Int)) : Prop := w.ownsRow 0 82 2 v q.length (qv q)
/-- The disk lies at R, its rows at these values; S holds its blocks. -/
structure DkV (R : Nat) (S : Nat → Prop) (t : Dk) (v0 v1 vq : Value) (w : World) : Prop where
  blk : Blk R 67 [v0, .int .i64 t.d0, v1, .int .i64 t.d1, vq, .int .i64 t.wr, .bool t.dn] w
  r0 : RowB 5 0 w v0 t.b0
  r1 : RowB 5 0 w v1 t.b1
  rq : RowQ w vq t.q
  s : ∀ g, S g → g < w.heap.size
  sR : S R
  s0 : ∀ g, v0.ownBlock = some g → S g ∧ g ≠ R
  s1 : ∀ g, v1.ownBlock = some g → S g ∧ g ≠ R ∧ v0.ownBlock ≠ some g
  sq : ∀ g, vq.ownBlock = some g → S g ∧ g ≠ R ∧ v0.ownBlock ≠ some g ∧ v1.ownBlock ≠ some g
structure Dk.Ok (t : Dk) : Prop where
  d0 : t.d0 ≤ t.b0.length
  l0 : t.b0.length ≤ 16777216
  d1 : t.d1 ≤ t.b1.length
  l1 : t.b1.length ≤ 16777216
  q : t.q.length ≤ 64
  qe : ∀ c ∈ t.q, 1 ≤ c.1 ∧ c.1 ≤ 1000000 ∧ 0 ≤ c.2 ∧ c.2 ≤ 16777216
def DkAt (R : Nat) (S : Nat → Prop) (t : Dk) (w : World) : Prop := t.Ok ∧ ∃ v0 v1 vq, DkV R S t v0 v1 vq w
theorem RowQ.kp {w w' : World} {v : Value} {q : List (Int × Int)} {M : Nat → Prop} (h : RowQ w v q) (k : Kp M w w') (hm : ∀ g, v.ownBlock = some g → ¬ M g) : RowQ w' v q := by
  refine ⟨h.1, ?_⟩
  rcases h.2 with hn | ⟨g, cap, cur, hv, hg, hh, rest⟩
  · exact .inl hn
  · have lt : g < w.heap.size := (Array.getElem?_eq_some_iff.1 hh).1
    exact .inr ⟨g, cap, cur, hv, hg, (k.block g lt (hm g (by rw [hv]; rfl))).trans hh, rest⟩
theorem DkV.kp {R : Nat} {S M : Nat → Prop} {t : Dk} {v0 v1 vq : Value} {w w' : World} (h : DkV R S t v0 v1 vq w) (k : Kp M w w') (hm : ∀ g, S g → ¬ M g) : DkV R S t v0 v1 vq w' :=
  ⟨h.blk.kp k (hm R h.sR), h.r0.kp k (fun g hg => hm g (h.s0 g hg).1), h.r1.kp k (fun g hg => hm g (h.s1 g hg).1), RowQ.kp h.rq k (fun g hg => hm g (h.sq g hg).1), fun g hg => Nat.lt_of_lt_of_le (h.s g hg) k.size, h.sR, h.s0, h.s1, h.sq⟩
theorem DkAt.kp {R : Nat} {S M : Nat → Prop} {t : Dk} {w w' : World} (h : DkAt R S t w) (k : Kp M w w') (hm : ∀ g, S g → ¬ M g) : DkAt R S t w' := by
  obtain ⟨ok, v0, v1, vq, h⟩ := h
  exact ⟨ok, v0, v1, vq, h.kp k hm⟩
theorem DkAt.below {R : Nat} {S : Nat → Prop} {t : Dk} {w w' : World} (h : DkAt R S t w) (hb : Below w.heap.size w w') : DkAt R S t w' := h.kp (Kp.of_below hb (fun _ => False)) (fun _ _ h => h)

def loadL (bs : List Nat) : List Nat := bs.take 16777216
def Dk.load (a b : List Nat) : Dk := ⟨loadL a, (loadL a).length, loadL b, (loadL b).length, [], 0, false⟩
theorem Dk.load_ok (a b : List Nat) : (Dk.load a b).Ok :=
  ⟨Nat.le_refl _, by unfold load loadL; simp; omega, Nat.le_refl _, by unfold load loadL; simp; omega, by simp [load], fun c hc => by simp [load] at hc⟩
/-- A new disk, its blocks all new. -/
def NewD (w : World) (t : Dk) (e : Ending) (w' : World) : Prop := ∃ R S, e = .returned (.pointer (some ⟨R, 0, none⟩)) ∧ DkAt R S t w' ∧ (∀ g, S g → w.heap.size ≤ g) ∧ Below w.heap.size w w'

set_option maxRecDepth 20000 in
set_option maxHeartbeats 1000000 in
theorem load_at (xa bs : List Nat) (va vb : Value) (w : World) (hla : xa.length ≤ 1000000000000) (hlb : bs.length ≤ 1000000000000) (ha : RdB w va xa) (hb : RdB w vb bs) : Calls Tryd.prog 21 #[va, vb] w (NewD w (Dk.load xa bs)) := by
  have LA : Hid (Calls Tryd.prog 42 #[va] w fun e w' => ∃ a c, e = .returned (.agg #[.slice a (loadL xa).length c, .int .i64 ((loadL xa).length : Int)]) ∧ RowB 5 w.heap.size w' (.slice a (loadL xa).length c) (loadL xa) ∧ Below w.heap.size w w') := loaded_at xa va w hla ha
  have LB : Hid (∀ w', Below w.heap.size w w' → Calls Tryd.prog 42 #[vb] w' fun e w'' => ∃ a c, e = .returned (.agg #[.slice a (loadL bs).length c, .int .i64 ((loadL bs).length : Int)]) ∧ RowB 5 w'.heap.size w'' (.slice a (loadL bs).length c) (loadL bs) ∧ Below w'.heap.size w' w'') := fun w' h => loaded_at bs vb w' hlb (Rd.later hb h)
  have OK : Hid (Dk.load xa bs).Ok := Dk.load_ok xa bs
  unfold Dk.load at *
  generalize loadL xa = la at *
  generalize loadL bs = lb at *
  obtain ⟨M, hM⟩ : ∃ M, la.length = M := ⟨_, rfl⟩
  obtain ⟨N, hN⟩ : ∃ N, lb.length = N := ⟨_, rfl⟩
  rw [hM, hN] at OK ⊢
  rw [hM] at LA
  rw [hN] at LB
  clear ha hb hla hlb
  go_enter Tryd.func21, Tryd.ntmps21
  go_wp2_with fail
  refine LA.out.mono ?_
  rintro e w1 ⟨a1, c1, rfl, r1, b1⟩
  go_wp2_with fail
  refine (LB.out _ b1).mono ?_
  rintro e w2 ⟨a2, c2, rfl, r2, b2⟩
  go_wp2_with fail
  go_ret
  have BA := below_alloc w2 (.cells #[.slice a1 M c1, .int .i64 (M : Int), .slice a2 N c2, .int .i64 (N : Int), .slice none 0 0, .int .i64 0, .bool false] 67)
  have BD := Blk.new 67 [.slice a1 M c1, .int .i64 (M : Int), .slice a2 N c2, .int .i64 (N : Int), .slice none 0 0, .int .i64 0, .bool false] w2
  have r1' := RowV.later (RowV.later r1 b2) BA
  have r2' := RowV.later r2 BA
  have z1 := b1.size
  have z2 := b2.size
  have lt1 : ∀ g, (Value.slice a1 M c1).ownBlock = some g → w.heap.size ≤ g ∧ g < w1.heap.size := fun g hg => ⟨r1.block_ge hg, r1.block_lt hg⟩
  have lt2 : ∀ g, (Value.slice a2 N c2).ownBlock = some g → w1.heap.size ≤ g ∧ g < w2.heap.size := fun g hg => ⟨r2.block_ge hg, r2.block_lt hg⟩
  refine ⟨w2.heap.size, fun g => w.heap.size ≤ g ∧ g < w2.heap.size + 1, rfl, ⟨OK.out, .slice a1 M c1, .slice a2 N c2, .slice none 0 0, BD, r1'.mono (Nat.zero_le _), r2'.mono (Nat.zero_le _), ⟨rfl, .inl ⟨rfl, rfl⟩⟩, fun g hg => by simp; omega, by omega, fun g hg => ?_, fun g hg => ?_, fun g hg => by cases hg⟩, fun g hg => hg.1, below_trans (below_trans b1 b2) BA⟩
  · have := lt1 g hg; omega
  · have := lt2 g hg
    exact ⟨by omega, by omega, fun e => by have := lt1 g e; omega⟩

set_option maxRecDepth 20000 in
theorem new_at (w : World) : Calls Tryd.prog 8 #[] w (NewD w (Dk.load [] [])) := by
  have hn : RdB w (.slice none 0 0) [] := ⟨none, 0, rfl, Nat.le_refl _, fun _ => rfl, fun i hi => by simp at hi⟩
  have C : Hid (Calls Tryd.prog 21 #[.slice none 0 0, .slice none 0 0] w (NewD w (Dk.load [] []))) := load_at [] [] _ _ w (by simp) (by simp) hn hn
  clear hn
  go_enter Tryd.func8, Tryd.ntmps8
  go_wp2_with fail
  refine C.out.mono ?_
  rintro e w1 ⟨R, S, rfl, h⟩
  have H : Hid (DkAt R S (Dk.load [] []) w1 ∧ (∀ g, S g → w.heap.size ≤ g) ∧ Below w.heap.size w w1) := h
  clear h
  go_wp2_with fail
  go_ret
  exact ⟨R, S, rfl, H.out⟩
end Go.Proofs.YtcmfehabcklbpaaDoor
