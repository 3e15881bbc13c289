/-
  Ours: room and Assess, the program's and the document's (gen_polass.py: THE SEAT's OWN NUMBERS).
-/
import Derived.Test.YtcjmjbhbdojeiabPolFee
import Derived.Test.YtcjmjbhbdojeiabPolRf2
import Derived.Test.YtcjmjbhbdojeiabRefNear
import Derived.Laws.Cover1
import Derived.Deep.RegionHeld3
namespace Go.Proofs.Ytcjmjbhbdojeiab
open Go.RowKit LedM PolM Signs

namespace PolM
def rmV (c u : Int) : Int := c - clV u 0 c
def m3 (x y z : Int) : Int := if z < (if y < x then y else x) then z else (if y < x then y else x)
def assV (l : List Int) (a cy li : Int) : Int := m3 (lateV l a) (rmV (l.getD 7 0) cy) (rmV (l.getD 8 0) li)
end PolM
theorem room_at (c u : Int) (hc : 0 ≤ c) (h9 : c ≤ 1000000000) (w : World) : Calls Try.prog 19 #[.int .i64 c, .int .i64 u] w fun e w' => e = .returned (.int .i64 (rmV c u)) ∧ w' = w := by
  have CL : Hid (∀ w, Calls Try.prog 18 #[.int .i64 u, .int .i64 0, .int .i64 c] w fun e w' => e = .returned (.int .i64 (clV u 0 c)) ∧ w' = w) := fun w => clamp_at u 0 c w
  have RV : Hid (rmV c u = c - clV u 0 c) := rfl
  have n1 : 0 ≤ clV u 0 c := by unfold clV; split <;> (try split) <;> omega
  have n2 : clV u 0 c ≤ c := by unfold clV; split <;> (try split) <;> omega
  generalize rmV c u = V at *
  generalize clV u 0 c = x at *
  obtain rfl := RV.out
  go_enter Try.func19, Try.ntmps19
  go_wp2_with fail
  refine (CL.out _).mono ?_
  rintro e w' ⟨rfl, rfl⟩
  go_wp2_with fail
  go_ret
  exact ⟨rfl, rfl⟩
theorem rroom_at (c u : Int) (hc : 0 ≤ c) (h9 : c ≤ 1000000000) (w : World) : Calls Try.prog 22 #[.int .i64 c, .int .i64 u] w fun e w' => e = .returned (.int .i64 (rmV c u)) ∧ w' = w := by
  by_cases h1 : u ≤ 0
  · have e : rmV c u = c := by unfold rmV clV; split <;> (try split) <;> omega
    rw [e]
    go_enter Try.func22, Try.ntmps22
    go_wp2_with fail
    go_ret
    exact ⟨rfl, rfl⟩
  · by_cases h2 : c ≤ u
    · have e : rmV c u = 0 := by unfold rmV clV; split <;> (try split) <;> omega
      rw [e]
      go_enter Try.func22, Try.ntmps22
      go_wp2_with fail
      go_ret
      exact ⟨rfl, rfl⟩
    · have e : rmV c u = c - u := by unfold rmV clV; split <;> (try split) <;> omega
      rw [e]
      go_enter Try.func22, Try.ntmps22
      go_wp2_with fail
      go_ret
      exact ⟨rfl, rfl⟩
theorem rbps_at (a b : Int) (ha : i64 a) (hb : i64 b) (w : World) : Calls Try.prog 21 #[.int .i64 a, .int .i64 b] w fun e w' => e = .returned (.tuple #[.int .i64 (mdV a b 10000), .bool (mdOk a b 10000)]) ∧ Below w.heap.size w w' := by
  have NA : Hid (∀ w, Calls Try.prog 26 #[.int .i64 a, .int .i64 b, .int .i64 10000] w fun e w' => e = .returned (.tuple #[.int .i64 (mdV a b 10000), .bool (mdOk a b 10000)]) ∧ Below w.heap.size w w') := fun w => rnear_any a b 10000 ha.1 ha.2 hb.1 hb.2 (by decide) (by decide) w
  generalize mdV a b 10000 = x at *
  generalize mdOk a b 10000 = y at *
  go_enter Try.func21, Try.ntmps21
  go_wp2_with fail
  refine (NA.out _).mono ?_
  rintro e w' ⟨rfl, b1⟩
  have B1 : Hid (Below w.heap.size w w') := b1
  clear b1
  go_wp2_with fail
  go_ret2
  exact ⟨rfl, B1.out⟩

set_option maxRecDepth 20000 in
set_option maxHeartbeats 2000000 in
theorem rlate_at (l hs : List Int) (s : Value) (w : World) (hl : l.length = 17) (ok : ∀ k, i64 (l.getD k 0)) (hr : Rd w s (bkL hs)) (hb : hs.length ≤ 1000000) (a : Int) (ha : i64 a) :
    Calls Try.prog 9 #[PV l s, .int .i64 a] w fun e w' => e = .returned (.int .i64 (if good l hs then lateV l a else 0)) ∧ Below w.heap.size w w' := by
  have MA : Hid (∀ w', Below w.heap.size w w' → Calls Try.prog 20 #[PV l s] w' fun e w'' => e = .returned (.bool (good l hs)) ∧ Below w'.heap.size w' w'') := fun w' hb' => rgood_at l hs s w' hl (hr.later hb') hb
  show Calls _ _ #[.agg (polL l s).toArray, _] _ _
  have BP : Hid (Blk w.heap.size 24 (polL l s) (w.alloc (.cells (polL l s).toArray 24))) := Blk.new _ _ _
  have BB : Hid (Below w.heap.size w (w.alloc (.cells (polL l s).toArray 24))) := below_alloc _ _
  have SZ : Hid ((Try.prog.info? 24).map (·.size) = some (polL l s).length) := by show _ = _; rw [polL_len hl]; exact sizeP
  have C : Hid (∀ w', Blk w.heap.size 24 (polL l s) w' → w'.cell? ⟨w.heap.size, 4, none⟩ = some (.int .i64 (l.getD 4 0)) ∧ w'.cell? ⟨w.heap.size, 5, none⟩ = some (.int .i64 (l.getD 5 0)) ∧ w'.cell? ⟨w.heap.size, 6, none⟩ = some (.int .i64 (l.getD 6 0))) := fun w' h => ⟨h.cell 4 _ (polL_at hl 4 (by omega)), h.cell 5 _ (polL_at hl 5 (by omega)), h.cell 6 _ (polL_at hl 6 (by omega))⟩
  have BS : Hid (∀ w, Calls Try.prog 21 #[.int .i64 a, .int .i64 (l.getD 4 0)] w fun e w' => e = .returned (.tuple #[.int .i64 (mdV a (l.getD 4 0) 10000), .bool (mdOk a (l.getD 4 0) 10000)]) ∧ Below w.heap.size w w') := fun w => rbps_at a _ ha (ok 4) w
  have LV : Hid (lateV l a = if a < 0 then 0 else if mdV a (l.getD 4 0) 10000 < l.getD 5 0 then l.getD 5 0 else if l.getD 6 0 < mdV a (l.getD 4 0) 10000 then l.getD 6 0 else mdV a (l.getD 4 0) 10000) := rfl
  clear hr hl hb ok
  generalize lateV l a = V at *
  generalize mdV a (l.getD 4 0) 10000 = X at *
  generalize mdOk a (l.getD 4 0) 10000 = XO at *
  generalize l.getD 4 0 = r at *
  generalize l.getD 5 0 = lo at *
  generalize l.getD 6 0 = up at *
  generalize good l hs = g at *
  obtain ⟨a1, a2⟩ := ha
  cases g
  · go_enter Try.func9, Try.ntmps9
    go_wp2_with (refine step_load rfl 24 _ rfl w.heap.size 0 rfl (polL l s) _ (Blk.all BP.out) Try.underlying24 rfl SZ.out ?_)
    refine (MA.out _ BB.out).mono ?_
    rintro e w1 ⟨rfl, b1⟩
    have B1 : Hid (Below w.heap.size w w1) := below_trans BB.out b1
    have P1 : Hid (Blk w.heap.size 24 (polL l s) w1) := BP.out.below b1
    clear b1
    go_wp2_with fail
    go_ret
    exact ⟨rfl, B1.out⟩
  by_cases h0 : a < 0
  · obtain rfl : V = 0 := by rw [LV.out, if_pos h0]
    go_enter Try.func9, Try.ntmps9
    go_wp2_with (refine step_load rfl 24 _ rfl w.heap.size 0 rfl (polL l s) _ (Blk.all BP.out) Try.underlying24 rfl SZ.out ?_)
    refine (MA.out _ BB.out).mono ?_
    rintro e w1 ⟨rfl, b1⟩
    have B1 : Hid (Below w.heap.size w w1) := below_trans BB.out b1
    have P1 : Hid (Blk w.heap.size 24 (polL l s) w1) := BP.out.below b1
    clear b1
    go_wp2_with fail
    go_ret
    exact ⟨rfl, B1.out⟩
  by_cases h1 : X < lo
  · obtain rfl : V = lo := by rw [LV.out, if_neg h0, if_pos h1]
    go_enter Try.func9, Try.ntmps9
    go_wp2_with (refine step_load rfl 24 _ rfl w.heap.size 0 rfl (polL l s) _ (Blk.all BP.out) Try.underlying24 rfl SZ.out ?_)
    refine (MA.out _ BB.out).mono ?_
    rintro e w1 ⟨rfl, b1⟩
    have B1 : Hid (Below w.heap.size w w1) := below_trans BB.out b1
    have P1 : Hid (Blk w.heap.size 24 (polL l s) w1) := BP.out.below b1
    clear b1
    obtain ⟨c4, -, -⟩ := C.out w1 P1.out
    go_wp2_with fail
    refine (BS.out _).mono ?_
    rintro e w2 ⟨rfl, b2⟩
    have B2 : Hid (Below w.heap.size w w2) := below_trans B1.out b2
    obtain ⟨-, c5, c6⟩ := C.out w2 (P1.out.below b2)
    clear b2
    go_wp2_with fail
    go_ret
    exact ⟨rfl, B2.out⟩
  by_cases h2 : up < X
  · obtain rfl : V = up := by rw [LV.out, if_neg h0, if_neg h1, if_pos h2]
    go_enter Try.func9, Try.ntmps9
    go_wp2_with (refine step_load rfl 24 _ rfl w.heap.size 0 rfl (polL l s) _ (Blk.all BP.out) Try.underlying24 rfl SZ.out ?_)
    refine (MA.out _ BB.out).mono ?_
    rintro e w1 ⟨rfl, b1⟩
    have B1 : Hid (Below w.heap.size w w1) := below_trans BB.out b1
    have P1 : Hid (Blk w.heap.size 24 (polL l s) w1) := BP.out.below b1
    clear b1
    obtain ⟨c4, -, -⟩ := C.out w1 P1.out
    go_wp2_with fail
    refine (BS.out _).mono ?_
    rintro e w2 ⟨rfl, b2⟩
    have B2 : Hid (Below w.heap.size w w2) := below_trans B1.out b2
    obtain ⟨-, c5, c6⟩ := C.out w2 (P1.out.below b2)
    clear b2
    go_wp2_with fail
    go_ret
    exact ⟨rfl, B2.out⟩
  · obtain rfl : V = X := by rw [LV.out, if_neg h0, if_neg h1, if_neg h2]
    go_enter Try.func9, Try.ntmps9
    go_wp2_with (refine step_load rfl 24 _ rfl w.heap.size 0 rfl (polL l s) _ (Blk.all BP.out) Try.underlying24 rfl SZ.out ?_)
    refine (MA.out _ BB.out).mono ?_
    rintro e w1 ⟨rfl, b1⟩
    have B1 : Hid (Below w.heap.size w w1) := below_trans BB.out b1
    have P1 : Hid (Blk w.heap.size 24 (polL l s) w1) := BP.out.below b1
    clear b1
    obtain ⟨c4, -, -⟩ := C.out w1 P1.out
    go_wp2_with fail
    refine (BS.out _).mono ?_
    rintro e w2 ⟨rfl, b2⟩
    have B2 : Hid (Below w.heap.size w w2) := below_trans B1.out b2
    obtain ⟨-, c5, c6⟩ := C.out w2 (P1.out.below b2)
    clear b2
    go_wp2_with fail
    go_ret
    exact ⟨rfl, B2.out⟩

set_option maxRecDepth 20000 in
set_option maxHeartbeats 2000000 in
theorem assess_at (l hs : List Int) (s : Value) (w : World) (hl : l.length = 17) (ok : ∀ k, i64 (l.getD k 0)) (hr : Rd w s (bkL hs)) (hb : hs.length ≤ 1000000) (a cy li : Int) (ha : i64 a) :
    Calls Try.prog 7 #[PV l s, .int .i64 a, .int .i64 cy, .int .i64 li] w fun e w' => e = .returned (.int .i64 (if good l hs then assV l a cy li else 0)) ∧ Below w.heap.size w w' := by
  have MA : Hid (∀ w', Below w.heap.size w w' → Calls Try.prog 16 #[PV l s] w' fun e w'' => e = .returned (.bool (good l hs)) ∧ Below w'.heap.size w' w'') := fun w' hb' => maybe_at l hs s w' hl (hr.later hb') hb
  have LA : Hid (good l hs = true → ∀ w', Below w.heap.size w w' → Calls Try.prog 6 #[PV l s, .int .i64 a] w' fun e w'' => e = .returned (.int .i64 (lateV l a)) ∧ Below w'.heap.size w' w'') := fun hg w' hb' => by have := late_at l hs s w' hl ok (hr.later hb') hb a ha; rwa [hg, if_pos rfl] at this
  have R7 : Hid (good l hs = true → ∀ w, Calls Try.prog 19 #[.int .i64 (l.getD 7 0), .int .i64 cy] w fun e w' => e = .returned (.int .i64 (rmV (l.getD 7 0) cy)) ∧ w = w') := fun hg w => (room_at _ _ (nums hg).cyc.1 (nums hg).cyc.2 w).mono fun e w' ⟨h, h'⟩ => ⟨h, h'.symm⟩
  have R8 : Hid (good l hs = true → ∀ w, Calls Try.prog 19 #[.int .i64 (l.getD 8 0), .int .i64 li] w fun e w' => e = .returned (.int .i64 (rmV (l.getD 8 0) li)) ∧ w = w') := fun hg w => (room_at _ _ (nums hg).life.1 (nums hg).life.2 w).mono fun e w' ⟨h, h'⟩ => ⟨h, h'.symm⟩
  show Calls _ _ #[.agg (polL l s).toArray, _, _, _] _ _
  have BP : Hid (Blk w.heap.size 24 (polL l s) (w.alloc (.cells (polL l s).toArray 24))) := Blk.new _ _ _
  have BB : Hid (Below w.heap.size w (w.alloc (.cells (polL l s).toArray 24))) := below_alloc _ _
  have SZ : Hid ((Try.prog.info? 24).map (·.size) = some (polL l s).length) := by show _ = _; rw [polL_len hl]; exact sizeP
  have C7 : Hid (∀ w', Blk w.heap.size 24 (polL l s) w' → w'.cell? ⟨w.heap.size, 7, none⟩ = some (.int .i64 (l.getD 7 0))) := fun w' h => h.cell 7 _ (polL_at hl 7 (by omega))
  have C8 : Hid (∀ w', Blk w.heap.size 24 (polL l s) w' → w'.cell? ⟨w.heap.size, 8, none⟩ = some (.int .i64 (l.getD 8 0))) := fun w' h => h.cell 8 _ (polL_at hl 8 (by omega))
  have AV : Hid (assV l a cy li = if rmV (l.getD 8 0) li < (if rmV (l.getD 7 0) cy < lateV l a then rmV (l.getD 7 0) cy else lateV l a) then rmV (l.getD 8 0) li else (if rmV (l.getD 7 0) cy < lateV l a then rmV (l.getD 7 0) cy else lateV l a)) := rfl
  clear hr hl hb ok ha
  generalize assV l a cy li = V at *
  generalize lateV l a = X at *
  generalize rmV (l.getD 7 0) cy = Y at *
  generalize rmV (l.getD 8 0) li = Z at *
  generalize l.getD 7 0 = p at *
  generalize l.getD 8 0 = q at *
  generalize good l hs = g at *
  cases g
  · go_enter Try.func7, Try.ntmps7
    go_wp2_with (refine step_load rfl 24 _ rfl w.heap.size 0 rfl (polL l s) _ (Blk.all BP.out) Try.underlying24 rfl SZ.out ?_)
    refine (MA.out _ BB.out).mono ?_
    rintro e w1 ⟨rfl, b1⟩
    have B1 : Hid (Below w.heap.size w w1) := below_trans BB.out b1
    have P1 : Hid (Blk w.heap.size 24 (polL l s) w1) := BP.out.below b1
    clear b1
    go_wp2_with fail
    go_ret
    exact ⟨rfl, B1.out⟩
  have LB : Hid (∀ w', Below w.heap.size w w' → Calls Try.prog 6 #[PV l s, .int .i64 a] w' fun e w'' => e = .returned (.int .i64 X) ∧ Below w'.heap.size w' w'') := LA.out rfl
  have RB7 : Hid (∀ w, Calls Try.prog 19 #[.int .i64 p, .int .i64 cy] w fun e w' => e = .returned (.int .i64 Y) ∧ w = w') := R7.out rfl
  have RB8 : Hid (∀ w, Calls Try.prog 19 #[.int .i64 q, .int .i64 li] w fun e w' => e = .returned (.int .i64 Z) ∧ w = w') := R8.out rfl
  rw [if_pos rfl]
  go_enter Try.func7, Try.ntmps7
  go_wp2_with (refine step_load rfl 24 _ rfl w.heap.size 0 rfl (polL l s) _ (Blk.all BP.out) Try.underlying24 rfl SZ.out ?_)
  refine (MA.out _ BB.out).mono ?_
  rintro e w1 ⟨rfl, b1⟩
  have B1 : Hid (Below w.heap.size w w1) := below_trans BB.out b1
  have P1 : Hid (Blk w.heap.size 24 (polL l s) w1) := BP.out.below b1
  clear b1
  go_upto_region 3 with fail
  have hu := Try.underlying24
  have hi := SZ.out
  refine wp_region_held_drew (S := fun w' => Below w.heap.size w w' ∧ Blk w.heap.size 24 (polL l s) w') (by kernel_rfl) (⟨below_drewN B1.out 1, P1.out.drewN 1⟩) (fun hH => ?_)
  refine wpAnyH_take (i := 0) (oi := { dst := some 12, op := Op.load 24 (Operand.tmp 4), type := 24, pos := "policy.go:39", after := #[], guard := none }) (v := .agg (polL l s).toArray) rfl (by kernel_rfl) (by kernel_rfl) (by kernel_rfl) (fun _ _ _ h => h) (yieldsIf_load_mid (by rfl) _ _ rfl w.heap.size 0 rfl (polL l s) _ (fun w' h => h.2.all) hu rfl hi) hH ?_
  try simp only [Act.put, List.setIfInBounds_toArray, List.set_cons_zero, List.set_cons_succ]
  refine wpAnyH_take (i := 1) (oi := { dst := some 13, op := Op.move (Operand.tmp 1), type := 2, pos := "policy.go:39", after := #[], guard := none }) (v := .int .i64 a) rfl (by kernel_rfl) (by kernel_rfl) (by kernel_rfl) (fun _ _ _ h => h) (Or.inl ⟨by rfl, fun w' h => by go_simp⟩) hH ?_
  try simp only [Act.put, List.setIfInBounds_toArray, List.set_cons_zero, List.set_cons_succ]
  refine wpAnyH_take (i := 3) (oi := { dst := some 15, op := Op.fieldAddr 24 (Operand.tmp 4) 7, type := 0, pos := "policy.go:39", after := #[], guard := none }) (v := .pointer (some ⟨w.heap.size, 7, none⟩)) rfl (by kernel_rfl) (by kernel_rfl) (by kernel_rfl) (fun _ _ _ h => h) (Or.inl ⟨by rfl, fun w' h => by go_simp⟩) hH ?_
  try simp only [Act.put, List.setIfInBounds_toArray, List.set_cons_zero, List.set_cons_succ]
  refine wpAnyH_take (i := 4) (oi := { dst := some 16, op := Op.load 2 (Operand.tmp 15), type := 2, pos := "policy.go:39", after := #[{ on := 3, ground := Ground.data }], guard := none }) (v := .int .i64 p) rfl (by kernel_rfl) (by kernel_rfl) (by kernel_rfl) (fun _ _ _ h => h) (Or.inl ⟨by rfl, fun w' h => by have c := C7.out w' h.2; go_simp⟩) hH ?_
  try simp only [Act.put, List.setIfInBounds_toArray, List.set_cons_zero, List.set_cons_succ]
  refine wpAnyH_take (i := 5) (oi := { dst := some 17, op := Op.move (Operand.tmp 2), type := 2, pos := "policy.go:39", after := #[], guard := none }) (v := .int .i64 cy) rfl (by kernel_rfl) (by kernel_rfl) (by kernel_rfl) (fun _ _ _ h => h) (Or.inl ⟨by rfl, fun w' h => by go_simp⟩) hH ?_
  try simp only [Act.put, List.setIfInBounds_toArray, List.set_cons_zero, List.set_cons_succ]
  refine wpAnyH_take (i := 7) (oi := { dst := some 19, op := Op.fieldAddr 24 (Operand.tmp 4) 8, type := 0, pos := "policy.go:39", after := #[], guard := none }) (v := .pointer (some ⟨w.heap.size, 8, none⟩)) rfl (by kernel_rfl) (by kernel_rfl) (by kernel_rfl) (fun _ _ _ h => h) (Or.inl ⟨by rfl, fun w' h => by go_simp⟩) hH ?_
  try simp only [Act.put, List.setIfInBounds_toArray, List.set_cons_zero, List.set_cons_succ]
  refine wpAnyH_take (i := 8) (oi := { dst := some 20, op := Op.load 2 (Operand.tmp 19), type := 2, pos := "policy.go:39", after := #[{ on := 7, ground := Ground.data }], guard := none }) (v := .int .i64 q) rfl (by kernel_rfl) (by kernel_rfl) (by kernel_rfl) (fun _ _ _ h => h) (Or.inl ⟨by rfl, fun w' h => by have c := C8.out w' h.2; go_simp⟩) hH ?_
  try simp only [Act.put, List.setIfInBounds_toArray, List.set_cons_zero, List.set_cons_succ]
  refine wpAnyH_take (i := 9) (oi := { dst := some 21, op := Op.move (Operand.tmp 3), type := 2, pos := "policy.go:39", after := #[], guard := none }) (v := .int .i64 li) rfl (by kernel_rfl) (by kernel_rfl) (by kernel_rfl) (fun _ _ _ h => h) (Or.inl ⟨by rfl, fun w' h => by go_simp⟩) hH ?_
  try simp only [Act.put, List.setIfInBounds_toArray, List.set_cons_zero, List.set_cons_succ]
  refine wpAnyH_ready (rs := [2]) (by kernel_rfl) (by simp) ?_
  refine AllReadyH.cons (o := { dst := some 14, op := Op.call { callee := Callee.value (Operand.func 6), args := #[Operand.tmp 12, Operand.tmp 13], argTypes := #[24, 2] }, type := 2, pos := "policy.go:39", after := #[{ on := 0, ground := Ground.data }, { on := 1, ground := Ground.data }], guard := none }) rfl (fun K hK => ?_) AllReadyH.nil
  go_simp
  refine (LB.out _ hH.1).mono ?_
  rintro e w2 ⟨rfl, b2⟩
  refine hK.out _ _ (⟨below_trans hH.1 b2, hH.2.below b2⟩) (fun hH => ?_)
  try simp only [Act.put, List.setIfInBounds_toArray, List.set_cons_zero, List.set_cons_succ]
  refine wpAnyH_ready (rs := [6]) (by kernel_rfl) (by simp) ?_
  refine AllReadyH.cons (o := { dst := some 18, op := Op.call { callee := Callee.value (Operand.func 19), args := #[Operand.tmp 16, Operand.tmp 17], argTypes := #[2, 2] }, type := 2, pos := "policy.go:39", after := #[{ on := 4, ground := Ground.data }, { on := 5, ground := Ground.data }, { on := 2, ground := Ground.chain }], guard := none }) rfl (fun K hK => ?_) AllReadyH.nil
  go_simp
  refine (RB7.out _).mono ?_
  rintro e w3 ⟨rfl, rfl⟩
  refine hK.out _ _ (hH) (fun hH => ?_)
  try simp only [Act.put, List.setIfInBounds_toArray, List.set_cons_zero, List.set_cons_succ]
  refine wpAnyH_ready (rs := [10]) (by kernel_rfl) (by simp) ?_
  refine AllReadyH.cons (o := { dst := some 22, op := Op.call { callee := Callee.value (Operand.func 19), args := #[Operand.tmp 20, Operand.tmp 21], argTypes := #[2, 2] }, type := 2, pos := "policy.go:39", after := #[{ on := 8, ground := Ground.data }, { on := 9, ground := Ground.data }, { on := 6, ground := Ground.chain }], guard := none }) rfl (fun K hK => ?_) AllReadyH.nil
  go_simp
  refine (RB8.out _).mono ?_
  rintro e w4 ⟨rfl, rfl⟩
  refine hK.out _ _ (hH) (fun hH => ?_)
  try simp only [Act.put, List.setIfInBounds_toArray, List.set_cons_zero, List.set_cons_succ]
  refine wpAnyH_take (i := 11) (oi := { dst := some 23, op := Op.call { callee := Callee.builtin Builtin.min, args := #[Operand.tmp 14, Operand.tmp 18, Operand.tmp 22], argTypes := #[2, 2, 2] }, type := 2, pos := "policy.go:39", after := #[{ on := 2, ground := Ground.data }, { on := 6, ground := Ground.data }, { on := 10, ground := Ground.data }], guard := none }) (v := .int .i64 (if Z < (if Y < X then Y else X) then Z else (if Y < X then Y else X))) rfl (by kernel_rfl) (by kernel_rfl) (by kernel_rfl) (fun _ _ _ h => h) (Or.inl ⟨by rfl, fun w' h => by go_simp⟩) hH ?_
  try simp only [Act.put, List.setIfInBounds_toArray, List.set_cons_zero, List.set_cons_succ]
  refine wpAnyH_take (i := 12) (oi := { dst := some 8, op := Op.assign (Operand.tmp 23), type := 2, pos := "policy.go:39", after := #[{ on := 11, ground := Ground.data }, { on := 10, ground := Ground.chain }, { on := 0, ground := Ground.phase }, { on := 1, ground := Ground.phase }, { on := 2, ground := Ground.phase }, { on := 3, ground := Ground.phase }, { on := 4, ground := Ground.phase }, { on := 5, ground := Ground.phase }, { on := 6, ground := Ground.phase }, { on := 7, ground := Ground.phase }, { on := 8, ground := Ground.phase }, { on := 9, ground := Ground.phase }, { on := 10, ground := Ground.phase }, { on := 11, ground := Ground.phase }], guard := none }) (v := .int .i64 (if Z < (if Y < X then Y else X) then Z else (if Y < X then Y else X))) rfl (by kernel_rfl) (by kernel_rfl) (by kernel_rfl) (fun _ _ _ h => h) (Or.inl ⟨by rfl, fun w' h => by go_simp⟩) hH ?_
  try simp only [Act.put, List.setIfInBounds_toArray, List.set_cons_zero, List.set_cons_succ]
  refine wpAnyH_done (by kernel_rfl) ?_ _
  have B2 : Hid (Below w.heap.size w w2) := hH.1
  clear hH hK
  rw [← AV.out]
  go_wp2_with fail
  go_ret
  exact ⟨rfl, B2.out⟩

set_option maxRecDepth 20000 in
set_option maxHeartbeats 2000000 in
theorem rassess_at (l hs : List Int) (s : Value) (w : World) (hl : l.length = 17) (ok : ∀ k, i64 (l.getD k 0)) (hr : Rd w s (bkL hs)) (hb : hs.length ≤ 1000000) (a cy li : Int) (ha : i64 a) :
    Calls Try.prog 12 #[PV l s, .int .i64 a, .int .i64 cy, .int .i64 li] w fun e w' => e = .returned (.int .i64 (if good l hs then assV l a cy li else 0)) ∧ Below w.heap.size w w' := by
  have MA : Hid (∀ w', Below w.heap.size w w' → Calls Try.prog 20 #[PV l s] w' fun e w'' => e = .returned (.bool (good l hs)) ∧ Below w'.heap.size w' w'') := fun w' hb' => rgood_at l hs s w' hl (hr.later hb') hb
  have LA : Hid (good l hs = true → ∀ w', Below w.heap.size w w' → Calls Try.prog 9 #[PV l s, .int .i64 a] w' fun e w'' => e = .returned (.int .i64 (lateV l a)) ∧ Below w'.heap.size w' w'') := fun hg w' hb' => by have := rlate_at l hs s w' hl ok (hr.later hb') hb a ha; rwa [hg, if_pos rfl] at this
  have R7 : Hid (good l hs = true → ∀ w, Calls Try.prog 22 #[.int .i64 (l.getD 7 0), .int .i64 cy] w fun e w' => e = .returned (.int .i64 (rmV (l.getD 7 0) cy)) ∧ w = w') := fun hg w => (rroom_at _ _ (nums hg).cyc.1 (nums hg).cyc.2 w).mono fun e w' ⟨h, h'⟩ => ⟨h, h'.symm⟩
  have R8 : Hid (good l hs = true → ∀ w, Calls Try.prog 22 #[.int .i64 (l.getD 8 0), .int .i64 li] w fun e w' => e = .returned (.int .i64 (rmV (l.getD 8 0) li)) ∧ w = w') := fun hg w => (rroom_at _ _ (nums hg).life.1 (nums hg).life.2 w).mono fun e w' ⟨h, h'⟩ => ⟨h, h'.symm⟩
  show Calls _ _ #[.agg (polL l s).toArray, _, _, _] _ _
  have BP : Hid (Blk w.heap.size 24 (polL l s) (w.alloc (.cells (polL l s).toArray 24))) := Blk.new _ _ _
  have BB : Hid (Below w.heap.size w (w.alloc (.cells (polL l s).toArray 24))) := below_alloc _ _
  have SZ : Hid ((Try.prog.info? 24).map (·.size) = some (polL l s).length) := by show _ = _; rw [polL_len hl]; exact sizeP
  have C7 : Hid (∀ w', Blk w.heap.size 24 (polL l s) w' → w'.cell? ⟨w.heap.size, 7, none⟩ = some (.int .i64 (l.getD 7 0))) := fun w' h => h.cell 7 _ (polL_at hl 7 (by omega))
  have C8 : Hid (∀ w', Blk w.heap.size 24 (polL l s) w' → w'.cell? ⟨w.heap.size, 8, none⟩ = some (.int .i64 (l.getD 8 0))) := fun w' h => h.cell 8 _ (polL_at hl 8 (by omega))
  have AV : Hid (assV l a cy li = if rmV (l.getD 8 0) li < (if rmV (l.getD 7 0) cy < lateV l a then rmV (l.getD 7 0) cy else lateV l a) then rmV (l.getD 8 0) li else (if rmV (l.getD 7 0) cy < lateV l a then rmV (l.getD 7 0) cy else lateV l a)) := rfl
  clear hr hl hb ok ha
  generalize assV l a cy li = V at *
  generalize lateV l a = X at *
  generalize rmV (l.getD 7 0) cy = Y at *
  generalize rmV (l.getD 8 0) li = Z at *
  generalize l.getD 7 0 = p at *
  generalize l.getD 8 0 = q at *
  generalize good l hs = g at *
  cases g
  · go_enter Try.func12, Try.ntmps12
    go_wp2_with (refine step_load rfl 24 _ rfl w.heap.size 0 rfl (polL l s) _ (Blk.all BP.out) Try.underlying24 rfl SZ.out ?_)
    refine (MA.out _ BB.out).mono ?_
    rintro e w1 ⟨rfl, b1⟩
    have B1 : Hid (Below w.heap.size w w1) := below_trans BB.out b1
    have P1 : Hid (Blk w.heap.size 24 (polL l s) w1) := BP.out.below b1
    clear b1
    go_wp2_with fail
    go_ret
    exact ⟨rfl, B1.out⟩
  have LB : Hid (∀ w', Below w.heap.size w w' → Calls Try.prog 9 #[PV l s, .int .i64 a] w' fun e w'' => e = .returned (.int .i64 X) ∧ Below w'.heap.size w' w'') := LA.out rfl
  have RB7 : Hid (∀ w, Calls Try.prog 22 #[.int .i64 p, .int .i64 cy] w fun e w' => e = .returned (.int .i64 Y) ∧ w = w') := R7.out rfl
  have RB8 : Hid (∀ w, Calls Try.prog 22 #[.int .i64 q, .int .i64 li] w fun e w' => e = .returned (.int .i64 Z) ∧ w = w') := R8.out rfl
  rw [if_pos rfl]
  go_enter Try.func12, Try.ntmps12
  go_wp2_with (refine step_load rfl 24 _ rfl w.heap.size 0 rfl (polL l s) _ (Blk.all BP.out) Try.underlying24 rfl SZ.out ?_)
  refine (MA.out _ BB.out).mono ?_
  rintro e w1 ⟨rfl, b1⟩
  have B1 : Hid (Below w.heap.size w w1) := below_trans BB.out b1
  have P1 : Hid (Blk w.heap.size 24 (polL l s) w1) := BP.out.below b1
  clear b1
  go_wp2_with (refine step_load rfl 24 _ rfl w.heap.size 0 rfl (polL l s) _ (Blk.all P1.out) Try.underlying24 rfl SZ.out ?_)
  refine (LB.out _ B1.out).mono ?_
  rintro e w2 ⟨rfl, b2⟩
  have B2 : Hid (Below w.heap.size w w2) := below_trans B1.out b2
  have P2 : Hid (Blk w.heap.size 24 (polL l s) w2) := P1.out.below b2
  have c7 := C7.out w2 P2.out
  have c8 := C8.out w2 P2.out
  have RB : Hid (∀ c u x w, ((c = p ∧ u = cy ∧ x = Y) ∨ (c = q ∧ u = li ∧ x = Z)) → Calls Try.prog 22 #[.int .i64 c, .int .i64 u] w fun e w' => e = .returned (.int .i64 x) ∧ w = w') := fun c u x w h => by
    rcases h with ⟨rfl, rfl, rfl⟩ | ⟨rfl, rfl, rfl⟩
    · exact RB7.out w
    · exact RB8.out w
  clear b2 LB LA R7 R8 MA RB7 RB8
  by_cases h1 : Y < X
  · by_cases h2 : Z < Y
    · obtain rfl : V = Z := by rw [AV.out, if_pos h1, if_pos h2]
      go_wp2_with (go_at_call 22; refine (RB.out _ _ _ _ (by first | exact .inl ⟨rfl, rfl, rfl⟩ | exact .inr ⟨rfl, rfl, rfl⟩)).mono ?_; rintro e w3 ⟨rfl, rfl⟩)
      go_ret
      exact ⟨rfl, B2.out⟩
    · obtain rfl : V = Y := by rw [AV.out, if_pos h1, if_neg h2]
      go_wp2_with (go_at_call 22; refine (RB.out _ _ _ _ (by first | exact .inl ⟨rfl, rfl, rfl⟩ | exact .inr ⟨rfl, rfl, rfl⟩)).mono ?_; rintro e w3 ⟨rfl, rfl⟩)
      go_ret
      exact ⟨rfl, B2.out⟩
  · by_cases h2 : Z < X
    · obtain rfl : V = Z := by rw [AV.out, if_neg h1, if_pos h2]
      go_wp2_with (go_at_call 22; refine (RB.out _ _ _ _ (by first | exact .inl ⟨rfl, rfl, rfl⟩ | exact .inr ⟨rfl, rfl, rfl⟩)).mono ?_; rintro e w3 ⟨rfl, rfl⟩)
      go_ret
      exact ⟨rfl, B2.out⟩
    · obtain rfl : V = X := by rw [AV.out, if_neg h1, if_neg h2]
      go_wp2_with (go_at_call 22; refine (RB.out _ _ _ _ (by first | exact .inl ⟨rfl, rfl, rfl⟩ | exact .inr ⟨rfl, rfl, rfl⟩)).mono ?_; rintro e w3 ⟨rfl, rfl⟩)
      go_ret
      exact ⟨rfl, B2.out⟩
end Go.Proofs.Ytcjmjbhbdojeiab
