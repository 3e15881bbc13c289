/-
  Ours: script.Parse.
-/
import Derived.Test.YtkjnklagjhhhkaaGreatDoorScPrs
namespace Go.Proofs.YtkjnklagjhhhkaaGreatDoor
open Go.RowKit Go.Lib ScF

def PaAns (r : PR) (e : Ending) : Prop := match r with
  | .ok o => e = .returned (.tuple #[opV o, .int .i64 0, .int .i64 0])
  | .bad x p => e = .returned (.tuple #[opV cm0, .int .i64 (x : Int), .int .i64 (p : Int)])
/-- errors.As of what readLine tells: the error itself, or wrapped once. -/
def IsFlt (E : Value) (x p : Nat) : Prop := E = fltV (x : Int) (p : Int) ∨ ∃ wd, E = .iface 73 (.agg #[.string wd, fltV (x : Int) (p : Int)])
theorem as_any (E : Value) (x p : Nat) (h : IsFlt E x p) (T : Nat) (old : List Value) (w : World) (hg : w.cell? ⟨1, 0, none⟩ = some (tyV 44)) (ho : old.length = 2) (hT : Blk T 48 old w) :
    Calls Tryz.prog 17 #[E, .iface 50 (.pointer (some ⟨T, 0, none⟩))] w (AsPost T (x : Int) (p : Int) w) := by
  rcases h with rfl | ⟨wd, rfl⟩
  · exact as_hit (x : Int) (p : Int) T old w hg ho hT
  · exact as_hit2 wd (x : Int) (p : Int) T old w hg ho hT
theorem isFlt_iface {E : Value} {x p : Nat} (h : IsFlt E x p) : ∃ t v, E = .iface t v := by
  rcases h with rfl | ⟨wd, rfl⟩ <;> exact ⟨_, _, rfl⟩

set_option maxRecDepth 40000 in
set_option maxHeartbeats 2000000 in
theorem parse_at (l : List UInt8) (a : Option Addr) (n c : Nat) (w : World) (hR : Rd w (.slice a n c) (byteCells l)) (hmax : l.length ≤ maxLen) (hW : PWs w) : Calls Tryz.prog 7 #[.slice a n c] w fun e w' => PaAns (readL l) e ∧ Below w.heap.size w w' := by
  have b0 := below_alloc w (.cells (opL cm0).toArray 24)
  have NB := Blk.new 24 (opL cm0) w
  have RL : Hid (Calls Tryz.prog 16 #[.slice a n c] (w.alloc (.cells (opL cm0).toArray 24)) fun e w' => RlAns (readL l) e ∧ Below (w.alloc (.cells (opL cm0).toArray 24)).heap.size (w.alloc (.cells (opL cm0).toArray 24)) w') := readLine_at l a n c _ (Rd.later hR b0) hmax (hW.later b0)
  have HET : Hid (w.cell? ⟨1, 0, none⟩ = some (tyV 44)) := hW.et
  clear hR hW hmax
  generalize readL l = R at *
  go_enter Tryz.func7, Tryz.ntmps7
  go_wp2_with fail
  refine RL.out.mono ?_
  rintro e w3 ⟨ha, b3⟩
  have B3 := below_trans b0 b3
  have NB3 : Hid (Blk w.heap.size 24 (opL cm0) w3) := NB.below b3
  clear RL NB b3 b0
  have b4 := below_alloc w3 (.cells (opL cm0).toArray 24)
  have NB4 : Hid (Blk w.heap.size 24 (opL cm0) (w3.alloc (.cells (opL cm0).toArray 24))) := NB3.out.below b4
  have B4 := below_trans B3 b4
  have HNZ : Hid (Blk w3.heap.size 24 (opL cm0) (w3.alloc (.cells (opL cm0).toArray 24))) := Blk.new 24 (opL cm0) w3
  have ltG : w.heap.size < w3.heap.size := NB3.out.lt
  clear b4 NB3 B3
  cases R with
  | ok o =>
    have ha' : e = .returned (.tuple #[.agg (opL o).toArray, .nilIface]) := ha
    subst ha'
    clear ha
    have IO := infoO o
    have ON := opV_one o
    go_wp2_with (first
      | fail
      | (refine step_store rfl 24 _ _ rfl w3.heap.size 0 24 (opL cm0) (opL o) rfl rfl HNZ.out (Nat.le_refl _) IO ON ?_; intro w4 nb4 g4; have N4 : Hid (Blk w3.heap.size 24 (opL o) w4) := nb4; have M4 : Hid (Blk w.heap.size 24 (opL cm0) w4) := NB4.out.grown g4 (by simp; omega); have B5 : Hid (Below w.heap.size w w4) := below_row B4 g4 (Nat.le_of_lt ltG); clear nb4 g4 HNZ NB4 B4))
    refine (as_nil _ _).mono ?_
    rintro e w6 ⟨rfl, hw⟩
    rw [hw]
    clear hw w6
    have b6 := below_alloc w4 (.cells #[.int .i64 0, .int .i64 0] 48)
    have N6 : Hid (Blk w3.heap.size 24 (opL o) (w4.alloc (.cells #[.int .i64 0, .int .i64 0] 48))) := N4.out.below b6
    have M6 : Hid (Blk w.heap.size 24 (opL cm0) (w4.alloc (.cells #[.int .i64 0, .int .i64 0] 48))) := M4.out.below b6
    have B6 := below_trans B5.out b6
    clear b6 N4 M4 B5
    generalize w4.alloc (.cells #[.int .i64 0, .int .i64 0] 48) = W6 at *
    go_wp2_with (first
      | (refine step_load rfl 24 _ rfl w3.heap.size 0 rfl (opL o) _ N6.out.all Tryz.underlying24 rfl IO ?_)
      | (refine step_store rfl 24 _ _ rfl w.heap.size 0 24 (opL cm0) (opL o) rfl rfl M6.out (Nat.le_refl _) IO ON ?_; intro w7 nb7 g7; have N7 : Hid (Blk w.heap.size 24 (opL o) w7) := nb7; have B7 : Hid (Below w.heap.size w w7) := below_row B6 g7 (Nat.le_refl _); clear nb7 g7 M6 N6 B6))
    refine ret_blk_tmp2 rfl rfl w.heap.size 24 (opL o) _ rfl N7.out Tryz.underlying24 rfl IO ?_
    exact ⟨rfl, B7.out⟩
  | bad x p =>
    obtain ⟨E, hE, rfl⟩ : ∃ E, IsFlt E x p ∧ e = .returned (.tuple #[.agg (opL cm0).toArray, E]) := by
      rcases ha with h | ⟨wd, h⟩
      · exact ⟨_, .inl rfl, h⟩
      · exact ⟨_, .inr ⟨wd, rfl⟩, h⟩
    clear ha
    have HE : Hid (IsFlt E x p) := hE
    obtain ⟨et, ev, rfl⟩ := isFlt_iface hE
    clear hE
    go_wp2_with (refine step_store rfl 24 _ _ rfl w3.heap.size 0 24 (opL cm0) (opL cm0) rfl rfl HNZ.out (Nat.le_refl _) infoO0 (opV_one cm0) ?_; intro w4 nb4 g4; have M4 : Hid (Blk w.heap.size 24 (opL cm0) w4) := NB4.out.grown g4 (by simp; omega); have B5 : Hid (Below w.heap.size w w4) := below_row B4 g4 (Nat.le_of_lt ltG); clear nb4 g4 HNZ NB4 B4)
    have b6 := below_alloc w4 (.cells #[.int .i64 0, .int .i64 0] 48)
    have B6 := below_trans B5.out b6
    have F6 := Blk.new 48 [.int .i64 0, .int .i64 0] w4
    have AS : Hid (Calls Tryz.prog 17 #[.iface et ev, .iface 50 (.pointer (some ⟨w4.heap.size, 0, none⟩))] (w4.alloc (.cells #[.int .i64 0, .int .i64 0] 48)) (AsPost w4.heap.size (x : Int) (p : Int) (w4.alloc (.cells #[.int .i64 0, .int .i64 0] 48)))) := as_any _ x p HE.out w4.heap.size [.int .i64 0, .int .i64 0] _ ((B6.cell (p := ⟨1, 0, none⟩) (World.block_lt_of_cell? w _ HET.out)).trans HET.out) rfl F6
    have M6 : Hid (Blk w.heap.size 24 (opL cm0) (w4.alloc (.cells #[.int .i64 0, .int .i64 0] 48))) := M4.out.below b6
    have lt4 : w.heap.size < w4.heap.size := M4.out.lt
    refine AS.out.mono ?_
    rintro e w7 ⟨rfl, f7, g7⟩
    have M7 : Hid (Blk w.heap.size 24 (opL cm0) w7) := M6.out.grown g7 (by simp; omega)
    have B7 : Below w.heap.size w w7 := below_row B6 g7 (Nat.le_of_lt lt4)
    have p0 := f7.cell 0 _ rfl
    have p1 := f7.cell 1 _ rfl
    have pl := f7.lt
    have ZB : Hid (Blk w.heap.size 24 (opL cm0) (zeroW w.heap.size w7).drew ∧ Below w.heap.size w (zeroW w.heap.size w7).drew) := ⟨(zeroW_blk M7.out).drewN 1, Below.drew (zeroW_below B7 (Nat.le_refl _))⟩
    have q0 := M7.out.cell 0 _ rfl
    have q1 := M7.out.cell 1 _ rfl
    have q2 := M7.out.cell 2 _ rfl
    have q3 := M7.out.cell 3 _ rfl
    have q4 := M7.out.cell 4 _ rfl
    have q5 := M7.out.cell 5 _ rfl
    have q6 := M7.out.cell 6 _ rfl
    have z0 := M7.out.fz
    have zl := M7.out.lt
    clear AS M6 F6 b6 B6 f7 g7 B7 M7 B5 M4 HET HE
    go_wp2_with fail
    go_region
    generalize (zeroW w.heap.size w7).drew = W9 at *
    go_wp2_with fail
    refine ret_blk_tmp2 rfl rfl w.heap.size 24 (opL cm0) _ rfl ZB.out.1 Tryz.underlying24 rfl infoO0 ?_
    exact ⟨rfl, ZB.out.2⟩
end Go.Proofs.YtkjnklagjhhhkaaGreatDoor
