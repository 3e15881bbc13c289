/-
  Ours: an entry moved into the sums.
-/
import Derived.Test.YtgdmkcbbomfmdaaGreatDoorLedOk
import Derived.Deep.RegionHeld3
import Derived.Deep.Cut
import Derived.Deep.CutRange
import Derived.Deep.RegionWith
namespace Go.Proofs.YtgdmkcbbomfmdaaGreatDoor
open Go.RowKit LedM

namespace LedM
def movedS (ss : List Int) (d c : Nat) (a : Int) : List Int := (ss.set d (ss.getD d 0 + a)).set c ((ss.set d (ss.getD d 0 + a)).getD c 0 - a)
end LedM
theorem smL_set2 : ∀ (ss : List Int) (k : Nat) (s : Int), k < ss.length → ((smL ss).set (k * 2) (.int .u64 (s / 18446744073709551616 % 18446744073709551616))).set (k * 2 + 1) (.int .u64 (s % 18446744073709551616)) = smL (ss.set k s)
  | x :: r, 0, s, _ => by simp [smL, wdL]
  | x :: r, k + 1, s, h => by
    have := smL_set2 r k s (by simpa using h)
    rw [show (k + 1) * 2 = k * 2 + 1 + 1 from by omega]
    simpa [smL, wdL] using this
theorem smL_hi : ∀ (ss : List Int) (k : Nat), k < ss.length → (smL ss)[k * 2]? = some (.int .u64 (ss.getD k 0 / 18446744073709551616 % 18446744073709551616)) ∧ (smL ss)[k * 2 + 1]? = some (.int .u64 (ss.getD k 0 % 18446744073709551616))
  | x :: r, 0, _ => by simp [smL, wdL]
  | x :: r, k + 1, h => by
    have := smL_hi r k (by simpa using h)
    rw [show (k + 1) * 2 = k * 2 + 1 + 1 from by omega]
    simpa [smL, wdL] using this

theorem below_transQ {Q : Nat} {w a b : World} (h : Below Q w a ∧ Q ≤ a.heap.size) (k : Below a.heap.size a b) : Below Q w b ∧ Q ≤ b.heap.size := ⟨h.1.trans (k.mono h.2), Nat.le_trans h.2 k.size⟩
theorem below_rowQ {Q G : Nat} {w a b : World} (h : Below Q w a ∧ Q ≤ a.heap.size) (k : a.grownBy b (some G)) (hG : Q ≤ G) : Below Q w b ∧ Q ≤ b.heap.size := ⟨h.1.grown k h.2 (fun g e => by cases e; exact hG), Nat.le_trans h.2 k.size⟩
set_option maxRecDepth 20000 in
set_option maxHeartbeats 4000000 in
theorem smove_at (ss : List Int) (d c : Nat) (a : Int) (w : World) (hs : ss.length = 12) (hd : d < 12) (hc : c < 12) (a0 : -9223372036854775808 ≤ a) (a1 : a ≤ 9223372036854775807) :
    Calls Tryz.prog 86 #[.agg (smL ss).toArray, .agg #[.int .i64 (d : Int), .int .i64 (c : Int), .int .i64 a]] w fun e w' => e = .returned (.agg (smL (movedS ss d c a)).toArray) ∧ Below w.heap.size w w' := by
  have G3 : Blk w.heap.size 128 (smL ss) (((w.alloc (.cells (smL ss).toArray 128)).alloc (.cells #[.int .i64 (d : Int), .int .i64 (c : Int), .int .i64 a] 79)).alloc (.cells #[Value.int .u64 0, Value.int .u64 0, Value.int .u64 0, Value.int .u64 0, Value.int .u64 0, Value.int .u64 0, Value.int .u64 0, Value.int .u64 0, Value.int .u64 0, Value.int .u64 0, Value.int .u64 0, Value.int .u64 0, Value.int .u64 0, Value.int .u64 0, Value.int .u64 0, Value.int .u64 0, Value.int .u64 0, Value.int .u64 0, Value.int .u64 0, Value.int .u64 0, Value.int .u64 0, Value.int .u64 0, Value.int .u64 0, Value.int .u64 0] 128)) := ((Blk.new 128 (smL ss) w).old _).old _
  have E3 : Blk (w.heap.size + 1) 79 [.int .i64 (d : Int), .int .i64 (c : Int), .int .i64 a] (((w.alloc (.cells (smL ss).toArray 128)).alloc (.cells #[.int .i64 (d : Int), .int .i64 (c : Int), .int .i64 a] 79)).alloc (.cells #[Value.int .u64 0, Value.int .u64 0, Value.int .u64 0, Value.int .u64 0, Value.int .u64 0, Value.int .u64 0, Value.int .u64 0, Value.int .u64 0, Value.int .u64 0, Value.int .u64 0, Value.int .u64 0, Value.int .u64 0, Value.int .u64 0, Value.int .u64 0, Value.int .u64 0, Value.int .u64 0, Value.int .u64 0, Value.int .u64 0, Value.int .u64 0, Value.int .u64 0, Value.int .u64 0, Value.int .u64 0, Value.int .u64 0, Value.int .u64 0] 128)) := (Blk.new2 79 [.int .i64 (d : Int), .int .i64 (c : Int), .int .i64 a] w _).old _
  have R3 : Blk (w.heap.size + 1 + 1) 128 #[Value.int .u64 0, Value.int .u64 0, Value.int .u64 0, Value.int .u64 0, Value.int .u64 0, Value.int .u64 0, Value.int .u64 0, Value.int .u64 0, Value.int .u64 0, Value.int .u64 0, Value.int .u64 0, Value.int .u64 0, Value.int .u64 0, Value.int .u64 0, Value.int .u64 0, Value.int .u64 0, Value.int .u64 0, Value.int .u64 0, Value.int .u64 0, Value.int .u64 0, Value.int .u64 0, Value.int .u64 0, Value.int .u64 0, Value.int .u64 0].toList (((w.alloc (.cells (smL ss).toArray 128)).alloc (.cells #[.int .i64 (d : Int), .int .i64 (c : Int), .int .i64 a] 79)).alloc (.cells #[Value.int .u64 0, Value.int .u64 0, Value.int .u64 0, Value.int .u64 0, Value.int .u64 0, Value.int .u64 0, Value.int .u64 0, Value.int .u64 0, Value.int .u64 0, Value.int .u64 0, Value.int .u64 0, Value.int .u64 0, Value.int .u64 0, Value.int .u64 0, Value.int .u64 0, Value.int .u64 0, Value.int .u64 0, Value.int .u64 0, Value.int .u64 0, Value.int .u64 0, Value.int .u64 0, Value.int .u64 0, Value.int .u64 0, Value.int .u64 0] 128)) := Blk.new3 128 #[Value.int .u64 0, Value.int .u64 0, Value.int .u64 0, Value.int .u64 0, Value.int .u64 0, Value.int .u64 0, Value.int .u64 0, Value.int .u64 0, Value.int .u64 0, Value.int .u64 0, Value.int .u64 0, Value.int .u64 0, Value.int .u64 0, Value.int .u64 0, Value.int .u64 0, Value.int .u64 0, Value.int .u64 0, Value.int .u64 0, Value.int .u64 0, Value.int .u64 0, Value.int .u64 0, Value.int .u64 0, Value.int .u64 0, Value.int .u64 0].toList w _ _
  have W3 : Below w.heap.size w (((w.alloc (.cells (smL ss).toArray 128)).alloc (.cells #[.int .i64 (d : Int), .int .i64 (c : Int), .int .i64 a] 79)).alloc (.cells #[Value.int .u64 0, Value.int .u64 0, Value.int .u64 0, Value.int .u64 0, Value.int .u64 0, Value.int .u64 0, Value.int .u64 0, Value.int .u64 0, Value.int .u64 0, Value.int .u64 0, Value.int .u64 0, Value.int .u64 0, Value.int .u64 0, Value.int .u64 0, Value.int .u64 0, Value.int .u64 0, Value.int .u64 0, Value.int .u64 0, Value.int .u64 0, Value.int .u64 0, Value.int .u64 0, Value.int .u64 0, Value.int .u64 0, Value.int .u64 0] 128)) := ((below_alloc w _).alloc (by simp) _).alloc (by simp; omega) _
  have hR : (#[Value.int .u64 0, Value.int .u64 0, Value.int .u64 0, Value.int .u64 0, Value.int .u64 0, Value.int .u64 0, Value.int .u64 0, Value.int .u64 0, Value.int .u64 0, Value.int .u64 0, Value.int .u64 0, Value.int .u64 0, Value.int .u64 0, Value.int .u64 0, Value.int .u64 0, Value.int .u64 0, Value.int .u64 0, Value.int .u64 0, Value.int .u64 0, Value.int .u64 0, Value.int .u64 0, Value.int .u64 0, Value.int .u64 0, Value.int .u64 0] : Array Value).toList.length = 24 := rfl
  obtain ⟨hid, HD⟩ : ∃ x, Hid (ss.getD d 0 / 18446744073709551616 % 18446744073709551616 = x) := ⟨_, rfl⟩
  obtain ⟨lod, LD⟩ : ∃ x, Hid (ss.getD d 0 % 18446744073709551616 = x) := ⟨_, rfl⟩
  have PL : Hid (∀ w : World, Calls Tryz.prog 114 #[.agg #[.int .u64 hid, .int .u64 lod], .int .i64 a] w fun e w' => e = .returned (.agg (wdL (ss.getD d 0 + a)).toArray) ∧ Below w.heap.size w w') := fun w => by
    have := wplus_at (ss.getD d 0) a w a0 a1
    unfold wdL at this
    rw [HD.out, LD.out] at this
    exact this
  obtain ⟨s1, hs1⟩ : ∃ s1, ss.set d (ss.getD d 0 + a) = s1 := ⟨_, rfl⟩
  have ls1 : s1.length = 12 := by rw [← hs1, List.length_set]; exact hs
  obtain ⟨hic, HC⟩ : ∃ x, Hid (s1.getD c 0 / 18446744073709551616 % 18446744073709551616 = x) := ⟨_, rfl⟩
  obtain ⟨loc, LC⟩ : ∃ x, Hid (s1.getD c 0 % 18446744073709551616 = x) := ⟨_, rfl⟩
  have MI : Hid (∀ w : World, Calls Tryz.prog 115 #[.agg #[.int .u64 hic, .int .u64 loc], .int .i64 a] w fun e w' => e = .returned (.agg (wdL (s1.getD c 0 - a)).toArray) ∧ Below w.heap.size w w') := fun w => by
    have := wminus_at (s1.getD c 0) a w a0 a1
    unfold wdL at this
    rw [HC.out, LC.out] at this
    exact this
  have RES : Hid (movedS ss d c a = s1.set c (s1.getD c 0 - a)) := by show _ = _; unfold movedS; rw [hs1]
  have id0 : (0 : Int) ≤ (d : Int) := by omega
  have id1 : (d : Int) < 12 := by omega
  have ic0 : (0 : Int) ≤ (c : Int) := by omega
  have ic1 : (c : Int) < 12 := by omega
  obtain ⟨s2, hs2⟩ : ∃ s2, s1.set c (s1.getD c 0 - a) = s2 := ⟨_, rfl⟩
  rw [RES.out]
  obtain ⟨hx, HX⟩ : ∃ x, Hid ((ss.getD d 0 + a) / 18446744073709551616 % 18446744073709551616 = x) := ⟨_, rfl⟩
  obtain ⟨lx, LX⟩ : ∃ x, Hid ((ss.getD d 0 + a) % 18446744073709551616 = x) := ⟨_, rfl⟩
  obtain ⟨hy, HY⟩ : ∃ x, Hid ((s1.getD c 0 - a) / 18446744073709551616 % 18446744073709551616 = x) := ⟨_, rfl⟩
  obtain ⟨ly, LY⟩ : ∃ x, Hid ((s1.getD c 0 - a) % 18446744073709551616 = x) := ⟨_, rfl⟩
  unfold wdL at PL MI
  rw [HX.out, LX.out] at PL
  rw [HY.out, LY.out] at MI
  have ST1 : Hid (((smL ss).set (d * 2) (.int .u64 hx)).set (d * 2 + 1) (.int .u64 lx) = smL s1) := by show _ = _; rw [← HX.out, ← LX.out, smL_set2 ss d _ (by omega), hs1]
  have ST2 : Hid (((smL s1).set (c * 2) (.int .u64 hy)).set (c * 2 + 1) (.int .u64 ly) = smL (s1.set c (s1.getD c 0 - a))) := by show _ = _; rw [← HY.out, ← LY.out, smL_set2 s1 c _ (by omega)]
  have SL : Hid ((smL (s1.set c (s1.getD c 0 - a))).length = 24) := by show _ = _; rw [smL_len, List.length_set, ls1]
  rw [hs2] at ST2 SL ⊢
  clear hs2 RES
  go_enter Tryz.func86, Tryz.ntmps86
  go_upto_region 1 with fail
  generalize ((w.alloc (.cells (smL ss).toArray 128)).alloc (.cells #[.int .i64 (d : Int), .int .i64 (c : Int), .int .i64 a] 79)).alloc (.cells #[Value.int .u64 0, Value.int .u64 0, Value.int .u64 0, Value.int .u64 0, Value.int .u64 0, Value.int .u64 0, Value.int .u64 0, Value.int .u64 0, Value.int .u64 0, Value.int .u64 0, Value.int .u64 0, Value.int .u64 0, Value.int .u64 0, Value.int .u64 0, Value.int .u64 0, Value.int .u64 0, Value.int .u64 0, Value.int .u64 0, Value.int .u64 0, Value.int .u64 0, Value.int .u64 0, Value.int .u64 0, Value.int .u64 0, Value.int .u64 0] 128) = w3 at *
  obtain ⟨Q, hQ⟩ : ∃ Q, w.heap.size = Q := ⟨_, rfl⟩
  have HQ : Hid (w.heap.size = Q) := hQ
  rw [hQ] at G3 E3 R3 W3 ⊢
  clear hQ
  generalize (#[Value.int .u64 0, Value.int .u64 0, Value.int .u64 0, Value.int .u64 0, Value.int .u64 0, Value.int .u64 0, Value.int .u64 0, Value.int .u64 0, Value.int .u64 0, Value.int .u64 0, Value.int .u64 0, Value.int .u64 0, Value.int .u64 0, Value.int .u64 0, Value.int .u64 0, Value.int .u64 0, Value.int .u64 0, Value.int .u64 0, Value.int .u64 0, Value.int .u64 0, Value.int .u64 0, Value.int .u64 0, Value.int .u64 0, Value.int .u64 0] : Array Value).toList = zr at *
  have ZR : Hid (zr.length = 24) := hR
  have LS : Hid (s1.length = 12) := ls1
  have S1 : Hid (∀ w', Below w3.heap.size w3 w' → w'.cell? ⟨Q + 1, 0, none⟩ = some (.int .i64 (d : Int)) ∧ w'.cell? ⟨Q + 1, 2, none⟩ = some (.int .i64 a) ∧ w'.cell? ⟨Q, d * 2, none⟩ = some (.int .u64 hid) ∧ w'.cell? ⟨Q, d * 2 + 1, none⟩ = some (.int .u64 lod) ∧ w'.frozen? ⟨Q, d * 2, none⟩ = false ∧ w'.frozen? ⟨Q, d * 2 + 1, none⟩ = false) := fun w' hb => ⟨(E3.below hb).cell 0 _ rfl, (E3.below hb).cell 2 _ rfl, by rw [← HD.out]; exact (G3.below hb).cell _ _ (smL_hi ss d (by omega)).1, by rw [← LD.out]; exact (G3.below hb).cell _ _ (smL_hi ss d (by omega)).2, (G3.below hb).fz _, (G3.below hb).fz _⟩
  obtain ⟨c0, c1, c2, c3, f0, f1⟩ := S1.out w3 (Below.refl _ _)
  have FR : Below w3.heap.size w3 w3 := Below.refl _ _
  have GG : Hid (Blk Q 128 (smL ss) w3) := G3
  have EE : Hid (Blk (Q + 1) 79 [.int .i64 (d : Int), .int .i64 (c : Int), .int .i64 a] w3) := E3
  have RR : Hid (Blk (Q + 1 + 1) 128 zr w3) := R3
  have WW : Hid (Below Q w w3 ∧ Q ≤ w3.heap.size) := ⟨W3, by have := G3.lt; omega⟩
  clear G3 E3 R3 W3 hs1 hs ls1 hR hd hc a0 a1
  go_cut [5] from 5 to 25 (fun v5 wx => Blk Q 128 (smL s1) wx ∧ Blk (Q + 1) 79 [.int .i64 (d : Int), .int .i64 (c : Int), .int .i64 a] wx ∧ Blk (Q + 1 + 1) 128 zr wx ∧ Below Q w wx ∧ Q ≤ wx.heap.size)
  case first =>
    go_region_with (first | (go_at_call 114; refine (PL.out _).mono ?_; rintro e wa ⟨rfl, ba⟩; have FA : Below w3.heap.size w3 wa := (by first | exact below_trans FR ba | exact below_trans (below_drewN FR 1) ba); obtain ⟨j0, j1, j2, j3, g0, g1⟩ := S1.out _ FA))
    all_goals
      have q1 := ((GG.out.below FA).set (i := d * 2) (.int .u64 hx)).set (i := d * 2 + 1) (.int .u64 lx)
      rw [ST1.out] at q1
      have gr := grownBy_trans (setCell_grown wa Q (d * 2) (.int .u64 hx)) (setCell_grown (wa.setCell ⟨Q, d * 2, none⟩ (.int .u64 hx)) Q (d * 2 + 1) (.int .u64 lx))
      have q2 := (EE.out.below FA).grown gr (by simp)
      have q3 := (RR.out.below FA).grown gr (by simp; omega)
      have q4 := below_rowQ (below_transQ WW.out FA) gr (Nat.le_refl _)
      have QQ : Hid (_ ∧ _ ∧ _ ∧ _) := ⟨q1, q2, q3, q4⟩
      clear q1 q2 q3 q4 gr
      go_wp2_with fail
      go_meet
      exact QQ.out
  case rest =>
    obtain ⟨g4, e4, r4, b4⟩ := hcut
    clear S1 GG EE RR WW c0 c1 c2 c3 f0 f1 FR PL ST1 HD LD HX LX w3
    have S2 : Hid (∀ w', Below wc.heap.size wc w' → w'.cell? ⟨Q + 1, 1, none⟩ = some (.int .i64 (c : Int)) ∧ w'.cell? ⟨Q + 1, 2, none⟩ = some (.int .i64 a) ∧ w'.cell? ⟨Q, c * 2, none⟩ = some (.int .u64 hic) ∧ w'.cell? ⟨Q, c * 2 + 1, none⟩ = some (.int .u64 loc) ∧ w'.frozen? ⟨Q, c * 2, none⟩ = false ∧ w'.frozen? ⟨Q, c * 2 + 1, none⟩ = false) := fun w' hb => ⟨(e4.below hb).cell 1 _ rfl, (e4.below hb).cell 2 _ rfl, by rw [← HC.out]; exact (g4.below hb).cell _ _ (smL_hi s1 c (by have := LS.out; omega)).1, by rw [← LC.out]; exact (g4.below hb).cell _ _ (smL_hi s1 c (by have := LS.out; omega)).2, (g4.below hb).fz _, (g4.below hb).fz _⟩
    obtain ⟨c0, c1, c2, c3, f0, f1⟩ := S2.out wc (Below.refl _ _)
    have FR : Below wc.heap.size wc wc := Below.refl _ _
    have GG : Hid (Blk Q 128 (smL s1) wc) := g4
    have EE : Hid (Blk (Q + 1) 79 [.int .i64 (d : Int), .int .i64 (c : Int), .int .i64 a] wc) := e4
    have RR : Hid (Blk (Q + 1 + 1) 128 zr wc) := r4
    have WW : Hid (Below Q w wc ∧ Q ≤ wc.heap.size) := b4
    clear g4 e4 r4 b4
    go_upto_region 2 with fail
    go_cut [5] from 5 to 25 (fun v5 wx => Blk Q 128 (smL s2) wx ∧ Blk (Q + 1) 79 [.int .i64 (d : Int), .int .i64 (c : Int), .int .i64 a] wx ∧ Blk (Q + 1 + 1) 128 zr wx ∧ Below Q w wx ∧ Q ≤ wx.heap.size)
    case first =>
      go_region_with (first | (go_at_call 115; refine (MI.out _).mono ?_; rintro e wa ⟨rfl, ba⟩; have FA : Below wc.heap.size wc wa := (by first | exact below_trans FR ba | exact below_trans (below_drewN FR 1) ba); obtain ⟨j0, j1, j2, j3, g0, g1⟩ := S2.out _ FA))
      all_goals
        have q1 := ((GG.out.below FA).set (i := c * 2) (.int .u64 hy)).set (i := c * 2 + 1) (.int .u64 ly)
        rw [ST2.out] at q1
        have gr := grownBy_trans (setCell_grown wa Q (c * 2) (.int .u64 hy)) (setCell_grown (wa.setCell ⟨Q, c * 2, none⟩ (.int .u64 hy)) Q (c * 2 + 1) (.int .u64 ly))
        have q2 := (EE.out.below FA).grown gr (by simp)
        have q3 := (RR.out.below FA).grown gr (by simp; omega)
        have q4 := below_rowQ (below_transQ WW.out FA) gr (Nat.le_refl _)
        have QQ : Hid (_ ∧ _ ∧ _ ∧ _) := ⟨q1, q2, q3, q4⟩
        clear q1 q2 q3 q4 gr
        go_wp2_with fail
        go_meet
        exact QQ.out
    case rest =>
      obtain ⟨g5, e5, r5, b5⟩ := hcut
      clear S2 GG EE RR WW c0 c1 c2 c3 f0 f1 FR MI ST2 HC LC HY LY
      have GG : Hid (Blk Q 128 (smL s2) wc) := g5
      have RR : Hid (Blk (Q + 1 + 1) 128 zr wc) := r5
      have WW : Hid (Below Q w wc ∧ Q ≤ wc.heap.size) := b5
      clear g5 e5 r5 b5
      go_wp2_with (first
        | (refine step_load rfl 128 _ rfl Q 0 rfl (smL s2) _ GG.out.all Tryz.underlying128 rfl (by rw [SL.out]; exact infoS) ?_)
        | (refine step_store rfl 128 _ _ rfl (Q + 1 + 1) 0 128 zr (smL s2) rfl rfl RR.out (by rw [SL.out, ZR.out]; exact Nat.le_refl _) (by rw [SL.out]; exact infoS) (smL_one _) ?_; intro w6 nb6 g6))
      have nb7 : Blk (Q + 1 + 1) 128 (smL s2) w6 := by
        rw [List.take_zero, List.nil_append, List.drop_eq_nil_of_le (by rw [SL.out, ZR.out]; exact Nat.le_refl _), List.append_nil] at nb6; exact nb6
      refine ret_blk rfl rfl (Q + 1 + 1) 128 (smL s2) _ rfl nb7 Tryz.underlying128 rfl (by rw [SL.out]; exact infoS) ?_
      refine ⟨rfl, ?_⟩
      rw [HQ.out]
      exact (below_rowQ WW.out g6 (by omega)).1
end Go.Proofs.YtgdmkcbbomfmdaaGreatDoor
