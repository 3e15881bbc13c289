/-
  Ours: readBoth.
-/
import Derived.Test.YtcmfehabcklbpaaDoorJouRen
namespace Go.Proofs.YtcmfehabcklbpaaDoor
open Go.RowKit JM

def z2 : List Value := [.slice none 0 0, .slice none 0 0]
/-- While both files are read: k of them are there. -/
def RB (w : World) (k : Nat) (b0 b1 : List Nat) (wr : World) : Prop := Below w.heap.size w wr ∧ Blk w.heap.size 83 z2 wr ∧
  ∃ s0 s1, Blk (w.heap.size + 1) 83 [s0, s1] wr ∧ (0 < k → ∃ a c, s0 = .slice a b0.length c ∧ RowB 5 (w.heap.size + 2) wr s0 b0) ∧ (1 < k → ∃ a c, s1 = .slice a b1.length c ∧ RowB 5 (w.heap.size + 2) wr s1 b1)
theorem RB.size {w wr : World} {k : Nat} {b0 b1 : List Nat} (h : RB w k b0 b1 wr) : w.heap.size + 2 ≤ wr.heap.size := by
  obtain ⟨-, -, s0, s1, h, -⟩ := h
  exact h.lt
theorem RB.later {w wr w1 : World} {k : Nat} {b0 b1 : List Nat} (h : RB w k b0 b1 wr) (hb : Below wr.heap.size wr w1) : RB w k b0 b1 w1 := by
  obtain ⟨h1, h2, s0, s1, h3, h4, h5⟩ := h
  refine ⟨below_trans h1 hb, h2.below hb, s0, s1, h3.below hb, fun hk => ?_, fun hk => ?_⟩
  · obtain ⟨a, c, e, r⟩ := h4 hk; exact ⟨a, c, e, RowV.later r hb⟩
  · obtain ⟨a, c, e, r⟩ := h5 hk; exact ⟨a, c, e, RowV.later r hb⟩
theorem RB.put0 {w w1 : World} {b0 b1 : List Nat} {a : Option Addr} {c : Nat} (h : RB w 0 b0 b1 w1) (r : RowB 5 (w.heap.size + 2) w1 (.slice a b0.length c) b0) : RB w 1 b0 b1 (w1.setCell ⟨w.heap.size + 1, 0, none⟩ (.slice a b0.length c)) := by
  obtain ⟨h1, h2, s0, s1, h3, h4, h5⟩ := h
  have g := setCell_grown w1 (w.heap.size + 1) 0 (.slice a b0.length c)
  refine ⟨below_row h1 g (by omega), h2.grown g (by omega), _, s1, h3.set _, fun _ => ⟨a, c, rfl, RowV.kept r g (fun g' hg e => ?_)⟩, fun hk => by omega⟩
  injection e with e
  have := RowV.block_ge r hg
  omega
theorem RB.put1 {w w1 : World} {b0 b1 : List Nat} {a : Option Addr} {c : Nat} (h : RB w 1 b0 b1 w1) (r : RowB 5 (w.heap.size + 2) w1 (.slice a b1.length c) b1) : RB w 2 b0 b1 (w1.setCell ⟨w.heap.size + 1, 1, none⟩ (.slice a b1.length c)) := by
  obtain ⟨h1, h2, s0, s1, h3, h4, h5⟩ := h
  have g := setCell_grown w1 (w.heap.size + 1) 1 (.slice a b1.length c)
  obtain ⟨a0, c0, e0, r0⟩ := h4 (by omega)
  have ne : ∀ {v : Value} {b : List Nat}, RowB 5 (w.heap.size + 2) w1 v b → ∀ g', v.ownBlock = some g' → some (w.heap.size + 1) ≠ some g' := fun r g' hg e => by
    injection e with e
    have := RowV.block_ge r hg
    omega
  exact ⟨below_row h1 g (by omega), h2.grown g (by omega), s0, _, h3.set _, fun _ => ⟨a0, c0, e0, RowV.kept r0 g (ne r0)⟩, fun _ => ⟨a, c, rfl, RowV.kept r g (ne r)⟩⟩

/-- What readBoth answers. -/
def BoAns (w : World) (t : Dk) (e : Ending) (w' : World) : Prop := Below w.heap.size w w' ∧
  if t.dn = true then e = .returned (.tuple #[.agg z2.toArray, .int .i64 51]) else ∃ a0 c0 a1 c1, e = .returned (.tuple #[.agg #[.slice a0 t.b0.length c0, .slice a1 t.b1.length c1], .int .i64 0]) ∧ RowB 5 w.heap.size w' (.slice a0 t.b0.length c0) t.b0 ∧ RowB 5 w.heap.size w' (.slice a1 t.b1.length c1) t.b1
theorem read_dn (t : Dk) (h : t.dn = true) : t.read 0 = ([], 51) := by unfold Dk.read Dk.no; rw [h]; rfl
theorem read_up0 (t : Dk) (h : t.dn = false) : t.read 0 = (t.b0, 0) := by unfold Dk.read Dk.no Dk.fb; rw [h]; rfl
theorem read_up1 (t : Dk) (h : t.dn = false) : t.read 1 = (t.b1, 0) := by unfold Dk.read Dk.no Dk.fb; rw [h]; rfl
theorem z2_one : ∀ v ∈ z2, v.oneCell' = true := by
  intro v h
  simp only [z2, List.mem_cons, List.not_mem_nil, or_false] at h
  rcases h with rfl | rfl <;> rfl
theorem two_one (a b : Option Addr) (l m c d : Nat) : ∀ v ∈ [Value.slice a l c, Value.slice b m d], v.oneCell' = true := by
  intro v h
  simp only [List.mem_cons, List.not_mem_nil, or_false] at h
  rcases h with rfl | rfl <;> rfl
theorem rb_kept {n : Nat} {w w' : World} {v : Value} {b : List Nat} (r : RowB 5 (n + 2) w v b) (g : w.grownBy w' (some n)) : RowB 5 n w' v b :=
  RowV.mono (RowV.kept r g (fun g' hg e => by injection e with e; have := RowV.block_ge r hg; omega)) (by omega)
theorem RB.start (w : World) (b0 b1 : List Nat) : RB w 0 b0 b1 ((w.alloc (.cells z2.toArray 83)).alloc (.cells z2.toArray 83)) :=
  ⟨below_trans (below_alloc _ _) (below_alloc _ _), (Blk.new _ _ w).old _, _, _, Blk.new2 _ _ w _, fun h => by omega, fun h => by omega⟩

set_option maxRecDepth 40000 in
set_option maxHeartbeats 2000000 in
theorem readBoth_at (R : Nat) (S : Nat → Prop) (t : Dk) (w : World) (h : DkAt R S t w) : Calls Tryd.prog 43 #[stV R] w (BoAns w t) := by
  have mr := meth_read R
  have RD : Hid (∀ (n : Int) w1, Below w.heap.size w w1 → Calls Tryd.prog 78 #[.pointer (some ⟨R, 0, none⟩), .int .i64 n] w1 (NewE w1 (t.read n))) := fun n w1 b1 => read_at R S t w1 n (h.below b1)
  have R0 : Hid (RB w 0 t.b0 t.b1 ((w.alloc (.cells #[.slice none 0 0, .slice none 0 0] 83)).alloc (.cells #[.slice none 0 0, .slice none 0 0] 83))) := RB.start w _ _
  unfold BoAns
  cases hd : t.dn with
  | true =>
    have rd0 := read_dn t hd
    clear hd h
    go_enter Tryd.func43, Tryd.ntmps43
    go_wp2_with fail
    go_loopw [8] (fun vk wr => vk = .int .i64 0 ∧ Hid (RB w 0 t.b0 t.b1 wr)) (fun _ _ => 0)
    case atStart => exact ⟨rfl, R0⟩
    case round =>
      obtain ⟨rfl, H1⟩ := hrel
      have C1 : Hid (Calls Tryd.prog 78 #[.pointer (some ⟨R, 0, none⟩), .int .i64 0] wr (NewE wr ([], 51))) := by have := RD.out 0 wr H1.out.1; rw [rd0] at this; exact this
      clear RD rd0
      go_wp2_with fail
      refine C1.out.mono ?_
      rintro e w1 ⟨a1, c1, rfl, -, b1⟩
      have B1 : Hid (RB w 0 t.b0 t.b1 w1) := H1.out.later b1
      clear b1 H1 C1
      go_wp2_with (first
        | ((with_reducible refine at_store ?_); refine step_store rfl 83 _ _ rfl w.heap.size 0 83 z2 z2 rfl rfl B1.out.2.1 (Nat.le_refl _) rfl z2_one ?_; intro w2 nb g2; have B2 : Hid (Below w.heap.size w w2 ∧ Blk w.heap.size 83 z2 w2) := ⟨below_row B1.out.1 g2 (Nat.le_refl _), blk_put (Nat.le_refl _) nb⟩; clear nb g2 B1))
      refine ret_blk_tmp rfl rfl w.heap.size 83 z2 _ rfl B2.out.2 Tryd.underlying83 rfl rfl ?_
      exact ⟨B2.out.1, rfl⟩
  | false =>
    have rd0 := read_up0 t hd
    have rd1 := read_up1 t hd
    clear hd h
    go_enter Tryd.func43, Tryd.ntmps43
    go_wp2_with fail
    go_loopw [8] (fun vk wr => ∃ k : Nat, vk = .int .i64 (k : Int) ∧ k ≤ 2 ∧ Hid (RB w k t.b0 t.b1 wr)) (fun vk _ => 2 - (intOf vk).toNat)
    case atStart => exact ⟨0, rfl, by omega, R0⟩
    case round =>
      obtain ⟨k, rfl, hk, H1⟩ := hrel
      obtain rfl | rfl | rfl : k = 0 ∨ k = 1 ∨ k = 2 := by omega
      · have C1 : Hid (Calls Tryd.prog 78 #[.pointer (some ⟨R, 0, none⟩), .int .i64 0] wr (NewE wr (t.b0, 0))) := by have := RD.out 0 wr H1.out.1; rw [rd0] at this; exact this
        have HS : Hid (w.heap.size + 2 ≤ wr.heap.size) := H1.out.size
        clear RD rd0 rd1
        generalize t.b0 = b0 at *
        generalize t.b1 = b1 at *
        go_wp2_with fail
        refine C1.out.mono ?_
        rintro e w1 ⟨a1, c1, rfl, r1, bb⟩
        have B1 : Hid (RB w 0 b0 b1 w1) := H1.out.later bb
        have R1 : Hid (RowB 5 (w.heap.size + 2) w1 (.slice a1 b0.length c1) b0) := RowV.mono r1 HS.out
        have N1 : Hid (RB w 1 b0 b1 (w1.setCell ⟨w.heap.size + 1, 0, none⟩ (.slice a1 b0.length c1))) := B1.out.put0 R1.out
        clear bb H1 C1 r1
        obtain ⟨s0, s1, hbk, -⟩ := B1.out.2.2
        have cc := hbk.cell 0 _ rfl
        have cf := hbk.fz 0
        clear hbk B1 R1
        go_wp2_with fail
        generalize w1.setCell ⟨w.heap.size + 1, 0, none⟩ (.slice a1 b0.length c1) = w2 at *
        go_roundw
        case rel => exact ⟨1, by go_num, by omega, N1⟩
        case measure => simp [intOf]
      · have C1 : Hid (Calls Tryd.prog 78 #[.pointer (some ⟨R, 0, none⟩), .int .i64 1] wr (NewE wr (t.b1, 0))) := by have := RD.out 1 wr H1.out.1; rw [rd1] at this; exact this
        have HS : Hid (w.heap.size + 2 ≤ wr.heap.size) := H1.out.size
        clear RD rd0 rd1
        generalize t.b0 = b0 at *
        generalize t.b1 = b1 at *
        go_wp2_with fail
        refine C1.out.mono ?_
        rintro e w1 ⟨a1, c1, rfl, r1, bb⟩
        have B1 : Hid (RB w 1 b0 b1 w1) := H1.out.later bb
        have R1 : Hid (RowB 5 (w.heap.size + 2) w1 (.slice a1 b1.length c1) b1) := RowV.mono r1 HS.out
        have N1 : Hid (RB w 2 b0 b1 (w1.setCell ⟨w.heap.size + 1, 1, none⟩ (.slice a1 b1.length c1))) := B1.out.put1 R1.out
        clear bb H1 C1 r1
        obtain ⟨s0, s1, hbk, -⟩ := B1.out.2.2
        have cc := hbk.cell 1 _ rfl
        have cf := hbk.fz 1
        clear hbk B1 R1
        go_wp2_with fail
        generalize w1.setCell ⟨w.heap.size + 1, 1, none⟩ (.slice a1 b1.length c1) = w2 at *
        go_roundw
        case rel => exact ⟨2, by go_num, by omega, N1⟩
        case measure => simp [intOf]
      · obtain ⟨hb, hz, s0, s1, hbk, h0, h1⟩ := H1.out
        obtain ⟨a0, c0, rfl, r0⟩ := h0 (by omega)
        obtain ⟨a1, c1, rfl, r1⟩ := h1 (by omega)
        have BK : Hid (Blk (w.heap.size + 1) 83 [.slice a0 t.b0.length c0, .slice a1 t.b1.length c1] wr) := hbk
        have BB : Hid (Below w.heap.size w wr ∧ Blk w.heap.size 83 z2 wr) := ⟨hb, hz⟩
        have RR : Hid (RowB 5 (w.heap.size + 2) wr (.slice a0 t.b0.length c0) t.b0 ∧ RowB 5 (w.heap.size + 2) wr (.slice a1 t.b1.length c1) t.b1) := ⟨r0, r1⟩
        clear hb hz hbk h0 h1 r0 r1 H1 RD rd0 rd1 R0
        go_wp2_with (first
          | (refine step_load rfl 83 _ rfl (w.heap.size + 1) 0 rfl [.slice a0 t.b0.length c0, .slice a1 t.b1.length c1] _ BK.out.all Tryd.underlying83 rfl rfl ?_)
          | ((with_reducible refine at_store ?_); refine step_store rfl 83 _ _ rfl w.heap.size 0 83 z2 [.slice a0 t.b0.length c0, .slice a1 t.b1.length c1] rfl rfl BB.out.2 (Nat.le_refl _) rfl (two_one _ _ _ _ _ _) ?_; intro w2 nb g2; have B2 : Hid (Below w.heap.size w w2 ∧ Blk w.heap.size 83 [.slice a0 t.b0.length c0, .slice a1 t.b1.length c1] w2) := ⟨below_row BB.out.1 g2 (Nat.le_refl _), blk_put (Nat.le_refl _) nb⟩; have R2 : Hid (RowB 5 w.heap.size w2 (.slice a0 t.b0.length c0) t.b0 ∧ RowB 5 w.heap.size w2 (.slice a1 t.b1.length c1) t.b1) := ⟨rb_kept RR.out.1 g2, rb_kept RR.out.2 g2⟩; clear nb g2 BB RR BK))
        refine ret_blk_tmp rfl rfl w.heap.size 83 [.slice a0 t.b0.length c0, .slice a1 t.b1.length c1] _ rfl B2.out.2 Tryd.underlying83 rfl rfl ?_
        exact ⟨B2.out.1, a0, c0, a1, c1, rfl, R2.out.1, R2.out.2⟩
end Go.Proofs.YtcmfehabcklbpaaDoor
