/-
  Ours: policy's LateFee.
-/
import Derived.Test.YtcjmjbhbdojeiabPolPrg
import Derived.Test.YtcjmjbhbdojeiabNear
namespace Go.Proofs.Ytcjmjbhbdojeiab
open Go.RowKit LedM PolM Signs

namespace PolM
def clV (x a b : Int) : Int := if x < a then a else if b < x then b else x
/-- The fee ahead of the caps. -/
def lateV (l : List Int) (a : Int) : Int := if a < 0 then 0 else clV (mdV a (l.getD 4 0) 10000) (l.getD 5 0) (l.getD 6 0)
end PolM
theorem bps_at (a b : Int) (ha : i64 a) (hb : i64 b) (w : World) : Calls Try.prog 17 #[.int .i64 a, .int .i64 b] w fun e w' => e = .returned (.tuple #[.int .i64 (mdV a b 10000), .bool (mdOk a b 10000)]) ∧ Below w.heap.size w w' := by
  have NA : Hid (∀ w, Calls Try.prog 24 #[.int .i64 a, .int .i64 b, .int .i64 10000] w fun e w' => e = .returned (.tuple #[.int .i64 (mdV a b 10000), .bool (mdOk a b 10000)]) ∧ Below w.heap.size w w') := fun w => (near_any a b 10000 ha.1 ha.2 hb.1 hb.2 (by decide) (by decide) w).mono fun e w' ⟨h, n, hn⟩ => ⟨h, by rw [hn]; exact below_drewN (Below.refl _ _) n⟩
  generalize mdV a b 10000 = x at *
  generalize mdOk a b 10000 = y at *
  go_enter Try.func17, Try.ntmps17
  go_wp2_with fail
  refine (NA.out _).mono ?_
  rintro e w' ⟨rfl, b1⟩
  have B1 : Hid (Below w.heap.size w w') := b1
  clear b1
  go_wp2_with fail
  go_ret2
  exact ⟨rfl, B1.out⟩
theorem clamp_at (x a b : Int) (w : World) : Calls Try.prog 18 #[.int .i64 x, .int .i64 a, .int .i64 b] w fun e w' => e = .returned (.int .i64 (clV x a b)) ∧ w' = w := by
  by_cases h1 : x < a
  · have e : clV x a b = a := if_pos h1
    rw [e]
    go_enter Try.func18, Try.ntmps18
    go_wp2_with fail
    go_ret
    exact ⟨rfl, rfl⟩
  · by_cases h2 : b < x
    · have e : clV x a b = b := by unfold clV; rw [if_neg h1, if_pos h2]
      rw [e]
      go_enter Try.func18, Try.ntmps18
      go_wp2_with fail
      go_ret
      exact ⟨rfl, rfl⟩
    · have e : clV x a b = x := by unfold clV; rw [if_neg h1, if_neg h2]
      rw [e]
      go_enter Try.func18, Try.ntmps18
      go_wp2_with fail
      go_ret
      exact ⟨rfl, rfl⟩

set_option maxRecDepth 20000 in
set_option maxHeartbeats 2000000 in
theorem late_at (l hs : List Int) (s : Value) (w : World) (hl : l.length = 17) (ok : ∀ k, i64 (l.getD k 0)) (hr : Rd w s (bkL hs)) (hb : hs.length ≤ 1000000) (a : Int) (ha : i64 a) :
    Calls Try.prog 6 #[PV l s, .int .i64 a] w fun e w' => e = .returned (.int .i64 (if good l hs then lateV l a else 0)) ∧ Below w.heap.size w w' := by
  have MA : Hid (∀ w', Below w.heap.size w w' → Calls Try.prog 16 #[PV l s] w' fun e w'' => e = .returned (.bool (good l hs)) ∧ Below w'.heap.size w' w'') := fun w' hb' => maybe_at l hs s w' hl (hr.later hb') hb
  show Calls _ _ #[.agg (polL l s).toArray, _] _ _
  have BP : Hid (Blk w.heap.size 24 (polL l s) (w.alloc (.cells (polL l s).toArray 24))) := Blk.new _ _ _
  have BB : Hid (Below w.heap.size w (w.alloc (.cells (polL l s).toArray 24))) := below_alloc _ _
  have SZ : Hid ((Try.prog.info? 24).map (·.size) = some (polL l s).length) := by show _ = _; rw [polL_len hl]; exact sizeP
  have C : Hid (∀ w', Blk w.heap.size 24 (polL l s) w' → w'.cell? ⟨w.heap.size, 4, none⟩ = some (.int .i64 (l.getD 4 0)) ∧ w'.cell? ⟨w.heap.size, 5, none⟩ = some (.int .i64 (l.getD 5 0)) ∧ w'.cell? ⟨w.heap.size, 6, none⟩ = some (.int .i64 (l.getD 6 0))) := fun w' h => ⟨h.cell 4 _ (polL_at hl 4 (by omega)), h.cell 5 _ (polL_at hl 5 (by omega)), h.cell 6 _ (polL_at hl 6 (by omega))⟩
  have BS : Hid (∀ w, Calls Try.prog 17 #[.int .i64 a, .int .i64 (l.getD 4 0)] w fun e w' => e = .returned (.tuple #[.int .i64 (mdV a (l.getD 4 0) 10000), .bool (mdOk a (l.getD 4 0) 10000)]) ∧ Below w.heap.size w w') := fun w => bps_at a _ ha (ok 4) w
  have CL : Hid (∀ w, Calls Try.prog 18 #[.int .i64 (mdV a (l.getD 4 0) 10000), .int .i64 (l.getD 5 0), .int .i64 (l.getD 6 0)] w fun e w' => e = .returned (.int .i64 (clV (mdV a (l.getD 4 0) 10000) (l.getD 5 0) (l.getD 6 0))) ∧ w' = w) := fun w => clamp_at _ _ _ w
  have LV : Hid (lateV l a = if a < 0 then 0 else clV (mdV a (l.getD 4 0) 10000) (l.getD 5 0) (l.getD 6 0)) := rfl
  clear hr hl hb ok
  generalize lateV l a = V at *
  generalize clV (mdV a (l.getD 4 0) 10000) (l.getD 5 0) (l.getD 6 0) = Y at *
  generalize mdV a (l.getD 4 0) 10000 = X at *
  generalize mdOk a (l.getD 4 0) 10000 = XO at *
  generalize l.getD 4 0 = r at *
  generalize l.getD 5 0 = lo at *
  generalize l.getD 6 0 = up at *
  generalize good l hs = g at *
  obtain ⟨a1, a2⟩ := ha
  cases g
  · go_enter Try.func6, Try.ntmps6
    go_wp2_with (refine step_load rfl 24 _ rfl w.heap.size 0 rfl (polL l s) _ (Blk.all BP.out) Try.underlying24 rfl SZ.out ?_)
    refine (MA.out _ BB.out).mono ?_
    rintro e w1 ⟨rfl, b1⟩
    have B1 : Hid (Below w.heap.size w w1) := below_trans BB.out b1
    clear b1
    go_wp2_with fail
    go_ret
    exact ⟨rfl, B1.out⟩
  · by_cases h0 : a < 0
    · obtain rfl : V = 0 := by rw [LV.out, if_pos h0]
      go_enter Try.func6, Try.ntmps6
      go_wp2_with (refine step_load rfl 24 _ rfl w.heap.size 0 rfl (polL l s) _ (Blk.all BP.out) Try.underlying24 rfl SZ.out ?_)
      refine (MA.out _ BB.out).mono ?_
      rintro e w1 ⟨rfl, b1⟩
      have B1 : Hid (Below w.heap.size w w1) := below_trans BB.out b1
      clear b1
      go_wp2_with fail
      go_ret
      exact ⟨rfl, B1.out⟩
    · obtain rfl : V = Y := by rw [LV.out, if_neg h0]
      go_enter Try.func6, Try.ntmps6
      go_wp2_with (refine step_load rfl 24 _ rfl w.heap.size 0 rfl (polL l s) _ (Blk.all BP.out) Try.underlying24 rfl SZ.out ?_)
      refine (MA.out _ BB.out).mono ?_
      rintro e w1 ⟨rfl, b1⟩
      have B1 : Hid (Below w.heap.size w w1) := below_trans BB.out b1
      have P1 : Hid (Blk w.heap.size 24 (polL l s) w1) := BP.out.below b1
      obtain ⟨c4, -, -⟩ := C.out w1 P1.out
      clear b1
      go_wp2_with fail
      refine (BS.out _).mono ?_
      rintro e w2 ⟨rfl, b2⟩
      have B2 : Hid (Below w.heap.size w w2) := below_trans B1.out b2
      obtain ⟨-, c5, c6⟩ := C.out w2 (P1.out.below b2)
      clear b2
      go_wp2_with fail
      refine (CL.out _).mono ?_
      rintro e w3 ⟨rfl, rfl⟩
      go_wp2_with fail
      go_ret
      exact ⟨rfl, B2.out⟩
end Go.Proofs.Ytcjmjbhbdojeiab
