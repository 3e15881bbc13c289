/-
  Ours: the document's moves.
-/
import Derived.Test.YtplebplpachgiaaWatMv
namespace Go.Proofs.Ytplebplpachgiaa
open Go.RowKit LedM WatM

set_option maxRecDepth 20000 in
set_option maxHeartbeats 1000000 in
theorem with_at (w0 : World) (es : List Ent) (v : Value) (k a : Int) (b : Bool) (w : World) (hb : Below w0.heap.size w0 w) (hr : RowE w0.heap.size w v es) (hn : es.length ≤ 1000) : Calls Try.prog 17 #[v, .int .i64 k, .int .i64 a, .bool b] w fun e w' => ∃ v', e = .returned v' ∧ RowE w0.heap.size w' v' (withE es k a b) ∧ Below w0.heap.size w0 w' := by
  have AL : Hid (∀ o o' : Obj, Below w.heap.size w ((w.alloc o).alloc o')) := fun o o' => (below_alloc w o).alloc (by simp) o'
  have ON : Hid (∀ (o : Obj) (x : Ent), RdE ((w.alloc o).alloc (.cells (entL x).toArray 35)) (.slice (some ⟨w.heap.size + 1, 0, none⟩) 1 1) [x]) := fun o x => by
    have := RdE.one (w.alloc o) x
    rw [show (w.alloc o).heap.size = w.heap.size + 1 from by simp] at this
    exact this
  have BB : Hid (Below w0.heap.size w0 w ∧ RowE w0.heap.size w v es ∧ es.length ≤ 1000) := ⟨hb, hr, hn⟩
  clear hb hr hn
  go_enter Try.func17, Try.ntmps17
  by_cases h : a ≤ 0
  · have E1 : Hid (withE es k a b = es) := if_pos h
    go_wp2_with fail
    go_ret
    exact ⟨_, rfl, by rw [E1.out]; exact BB.out.2.1, BB.out.1⟩
  · cases b
    · have E1 : Hid (withE es k a false = es ++ [⟨0, k, a⟩]) := if_neg h
      go_wp2_with (at_builtin; refine wpList_catE rfl (.tmp 20) (.tmp 22) rfl w0.heap.size v (.slice (some ⟨w.heap.size + 1, 0, none⟩) 1 1) es [⟨0, k, a⟩] rfl (RowE.later BB.out.2.1 (AL.out _ _)) (Nat.le_trans BB.out.1.size (AL.out _ _).size) rfl (ON.out _ ⟨0, k, a⟩) (by have := BB.out.2.2; simp; omega) ?_; intro v5 w5 r5 g5)
      go_ret
      exact ⟨_, rfl, by rw [E1.out]; exact r5, (below_trans BB.out.1 (AL.out _ _)).grown g5 (below_trans BB.out.1 (AL.out _ _)).size (fun g hg => RowE.ge BB.out.2.1 hg)⟩
    · have E1 : Hid (withE es k a true = es ++ [⟨k, 0, a⟩]) := if_neg h
      go_wp2_with (at_builtin; refine wpList_catE rfl (.tmp 20) (.tmp 22) rfl w0.heap.size v (.slice (some ⟨w.heap.size + 1, 0, none⟩) 1 1) es [⟨k, 0, a⟩] rfl (RowE.later BB.out.2.1 (AL.out _ _)) (Nat.le_trans BB.out.1.size (AL.out _ _).size) rfl (ON.out _ ⟨k, 0, a⟩) (by have := BB.out.2.2; simp; omega) ?_; intro v5 w5 r5 g5)
      go_ret
      exact ⟨_, rfl, by rw [E1.out]; exact r5, (below_trans BB.out.1 (AL.out _ _)).grown g5 (below_trans BB.out.1 (AL.out _ _)).size (fun g hg => RowE.ge BB.out.2.1 hg)⟩

set_option maxRecDepth 20000 in
set_option maxHeartbeats 1000000 in
theorem moves_at (f i p u r : Int) (b : Bool) (w : World) : Calls Try.prog 16 #[.agg (bkL [f, i, p, u, r]).toArray, .bool b] w fun e w' => ∃ v, e = .returned v ∧ RowE w.heap.size w' v (movesE f i p u r b) ∧ Below w.heap.size w w' := by
  obtain ⟨w0, hw0⟩ : ∃ w0, w0 = w.alloc (.cells (bkL [f, i, p, u, r]).toArray 23) := ⟨_, rfl⟩
  have NB : Hid (Blk w.heap.size 23 (bkL [f, i, p, u, r]) w0) := by show Blk _ _ _ _; rw [hw0]; exact Blk.new 23 (bkL [f, i, p, u, r]) w
  have BB : Hid (Below w.heap.size w w0) := by show Below _ _ _; rw [hw0]; exact below_alloc w _
  have CE : Hid (∀ w', Below w0.heap.size w0 w' → w'.cell? ⟨w.heap.size, 0, none⟩ = some (.int .i64 f) ∧ w'.cell? ⟨w.heap.size, 1, none⟩ = some (.int .i64 i) ∧ w'.cell? ⟨w.heap.size, 2, none⟩ = some (.int .i64 p) ∧ w'.cell? ⟨w.heap.size, 3, none⟩ = some (.int .i64 u) ∧ w'.cell? ⟨w.heap.size, 4, none⟩ = some (.int .i64 r)) := fun w' hb => by
    have n := NB.out.below hb
    exact ⟨n.cell 0 _ rfl, n.cell 1 _ rfl, n.cell 2 _ rfl, n.cell 3 _ rfl, n.cell 4 _ rfl⟩
  have WI : Hid (∀ (es : List Ent) (v : Value) (k a : Int) (w' : World), Below w0.heap.size w0 w' ∧ RowE w0.heap.size w' v es ∧ es.length ≤ 1000 → Calls Try.prog 17 #[v, .int .i64 k, .int .i64 a, .bool b] w' fun e w2 => ∃ v', e = .returned v' ∧ RowE w0.heap.size w2 v' (withE es k a b) ∧ Below w0.heap.size w0 w2) := fun es v k a w' h => with_at w0 es v k a b w' h.1 h.2.1 h.2.2
  have LE : Hid ((withE [] 3 f b).length ≤ 1000 ∧ (withE (withE [] 3 f b) 2 i b).length ≤ 1000 ∧ (withE (withE (withE [] 3 f b) 2 i b) 1 p b).length ≤ 1000 ∧ (withE (withE (withE (withE [] 3 f b) 2 i b) 1 p b) 4 u b).length ≤ 1000) := by
    have h1 := withE_len [] 3 f b
    have h2 := withE_len (withE [] 3 f b) 2 i b
    have h3 := withE_len (withE (withE [] 3 f b) 2 i b) 1 p b
    have h4 := withE_len (withE (withE (withE [] 3 f b) 2 i b) 1 p b) 4 u b
    simp only [List.length_nil] at h1
    exact ⟨by omega, by omega, by omega, by omega⟩
  have ST : Hid (Below w0.heap.size w0 w0 ∧ RowE w0.heap.size w0 (.slice none 0 0) [] ∧ ([] : List Ent).length ≤ 1000) := ⟨Below.refl _ _, RowE.nil _ _, by simp⟩
  obtain ⟨c0, c1, c2, c3, c4⟩ := CE.out w0 ST.out.1
  clear NB
  generalize bkL [f, i, p, u, r] = cs at *
  rw [hw0] at c0 c1 c2 c3 c4
  have HW : Hid (w0 = w.alloc (.cells cs.toArray 23)) := hw0
  clear hw0
  go_enter Try.func16, Try.ntmps16
  go_wp2_with fail
  rw [← HW.out]
  clear HW c0 c1 c2 c3 c4
  refine (WI.out [] _ _ _ _ ST.out).mono ?_
  rintro e w1 ⟨v1, rfl, r1, b1⟩
  obtain ⟨c0, c1, c2, c3, c4⟩ := CE.out w1 b1
  have S1 : Hid (Below w0.heap.size w0 w1 ∧ RowE w0.heap.size w1 v1 _ ∧ _) := ⟨b1, r1, LE.out.1⟩
  clear r1 b1 ST
  go_wp2_with fail
  refine (WI.out _ _ _ _ _ S1.out).mono ?_
  rintro e w2 ⟨v2, rfl, r2, b2⟩
  obtain ⟨c0, c1, c2, c3, c4⟩ := CE.out w2 b2
  have S2 : Hid (Below w0.heap.size w0 w2 ∧ RowE w0.heap.size w2 v2 _ ∧ _) := ⟨b2, r2, LE.out.2.1⟩
  clear r2 b2 S1
  go_wp2_with fail
  refine (WI.out _ _ _ _ _ S2.out).mono ?_
  rintro e w3 ⟨v3, rfl, r3, b3⟩
  obtain ⟨c0, c1, c2, c3, c4⟩ := CE.out w3 b3
  have S3 : Hid (Below w0.heap.size w0 w3 ∧ RowE w0.heap.size w3 v3 _ ∧ _) := ⟨b3, r3, LE.out.2.2.1⟩
  clear r3 b3 S2
  go_wp2_with fail
  refine (WI.out _ _ _ _ _ S3.out).mono ?_
  rintro e w4 ⟨v4, rfl, r4, b4⟩
  obtain ⟨c0, c1, c2, c3, c4⟩ := CE.out w4 b4
  have S4 : Hid (Below w0.heap.size w0 w4 ∧ RowE w0.heap.size w4 v4 _ ∧ _) := ⟨b4, r4, LE.out.2.2.2⟩
  clear r4 b4 S3
  go_wp2_with fail
  refine (WI.out _ _ _ _ _ S4.out).mono ?_
  rintro e w5 ⟨v5, rfl, r5, b5⟩
  have S5 : Hid (RowE w.heap.size w5 v5 (movesE f i p u r b) ∧ Below w.heap.size w w5) := ⟨RowE.mono r5 BB.out.size, below_trans BB.out b5⟩
  clear r5 b5 S4 c0 c1 c2 c3 c4 CE WI
  go_wp2_with fail
  go_ret
  exact ⟨_, rfl, S5.out⟩

set_option maxRecDepth 20000 in
theorem rentries_at (f i p u r : Int) (w : World) : Calls Try.prog 13 #[.agg (bkL [f, i, p, u, r]).toArray] w fun e w' => ∃ v, e = .returned v ∧ RowE w.heap.size w' v (entsP f i p u r) ∧ Below w.heap.size w w' := by
  have NB : Hid (Blk w.heap.size 23 (bkL [f, i, p, u, r]) (w.alloc (.cells (bkL [f, i, p, u, r]).toArray 23))) := Blk.new 23 (bkL [f, i, p, u, r]) w
  have BB : Hid (Below w.heap.size w (w.alloc (.cells (bkL [f, i, p, u, r]).toArray 23))) := below_alloc w _
  go_enter Try.func13, Try.ntmps13
  go_wp2_with (refine step_load rfl 23 _ rfl w.heap.size 0 rfl (bkL [f, i, p, u, r]) _ NB.out.all Try.underlying23 rfl infoP ?_)
  refine (moves_at f i p u r false _).mono ?_
  rintro e w2 ⟨v2, rfl, r2, b2⟩
  rw [movesE_false] at r2
  have S5 : Hid (RowE w.heap.size w2 v2 (entsP f i p u r) ∧ Below w.heap.size w w2) := ⟨RowE.mono r2 BB.out.size, below_trans BB.out b2⟩
  clear r2 b2 NB BB
  go_wp2_with fail
  go_ret
  exact ⟨_, rfl, S5.out⟩
set_option maxRecDepth 20000 in
theorem rundo_at (f i p u r : Int) (w : World) : Calls Try.prog 14 #[.agg (bkL [f, i, p, u, r]).toArray] w fun e w' => ∃ v, e = .returned v ∧ RowE w.heap.size w' v (undoP f i p u r) ∧ Below w.heap.size w w' := by
  have NB : Hid (Blk w.heap.size 23 (bkL [f, i, p, u, r]) (w.alloc (.cells (bkL [f, i, p, u, r]).toArray 23))) := Blk.new 23 (bkL [f, i, p, u, r]) w
  have BB : Hid (Below w.heap.size w (w.alloc (.cells (bkL [f, i, p, u, r]).toArray 23))) := below_alloc w _
  go_enter Try.func14, Try.ntmps14
  go_wp2_with (refine step_load rfl 23 _ rfl w.heap.size 0 rfl (bkL [f, i, p, u, r]) _ NB.out.all Try.underlying23 rfl infoP ?_)
  refine (moves_at f i p u r true _).mono ?_
  rintro e w2 ⟨v2, rfl, r2, b2⟩
  rw [movesE_true] at r2
  have S5 : Hid (RowE w.heap.size w2 v2 (undoP f i p u r) ∧ Below w.heap.size w w2) := ⟨RowE.mono r2 BB.out.size, below_trans BB.out b2⟩
  clear r2 b2 NB BB
  go_wp2_with fail
  go_ret
  exact ⟨_, rfl, S5.out⟩
end Go.Proofs.Ytplebplpachgiaa
