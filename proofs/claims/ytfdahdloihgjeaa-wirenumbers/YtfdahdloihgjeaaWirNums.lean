/-
  Ours: the law WireNumbers walked.
-/
import Derived.Test.YtfdahdloihgjeaaWirInt
import Derived.Test.YtfdahdloihgjeaaWirTold
namespace Go.Proofs.Ytfdahdloihgjeaa
open Go.RowKit

/-- The answers of a reading, taken apart. -/
def rv (r : Option (Nat × Nat)) : Int := match r with | some (v, _) => (v : Int) | none => 0
def ri (r : Option (Nat × Nat)) : Int := match r with | some (v, _) => unzz v | none => 0
def rn (r : Option (Nat × Nat)) : Int := match r with | some (_, n) => (n : Int) | none => 0
def rk (r : Option (Nat × Nat)) : Bool := match r with | some _ => true | none => false
theorem rdAns_parts (r : Option (Nat × Nat)) : rdAns r = .returned (.tuple #[.int .u64 (rv r), .int .i64 (rn r), .bool (rk r)]) := by
  cases r with
  | none => rfl
  | some q => rfl
theorem rdIAns_parts (r : Option (Nat × Nat)) : rdIAns r = .returned (.tuple #[.int .i64 (ri r), .int .i64 (rn r), .bool (rk r)]) := by
  cases r with
  | none => rfl
  | some q => rfl

/-- A prefix of a row, as a slice expression gives it. -/
theorem RowV.pre {e : TypeId} {base : Nat} {w : World} {v : Value} {xs ys : List Value} (h : RowV e base w v (xs ++ ys)) (hy : 0 < ys.length) :
    ∃ g cap, v = .slice (some ⟨g, 0, none⟩) (xs.length + ys.length) cap ∧ xs.length + ys.length ≤ cap ∧ ∀ w', Below w.heap.size w w' → Rd w' (.slice (some ⟨g, 0, none⟩) xs.length cap) xs := by
  obtain ⟨ao, cap, e1, h1, h2, h3⟩ := h.rd
  obtain ⟨g, cap', e2, _, _, _⟩ := h.own (by simp; omega)
  rw [e1] at e2
  cases e2
  refine ⟨g, cap, by rw [e1, List.length_append], by rw [List.length_append] at h1; omega, fun w' hb => ⟨_, cap, rfl, by rw [List.length_append] at h1; omega, (fun h => by cases h), fun i hi => ?_⟩⟩
  obtain ⟨g', o', e3, lt, hc⟩ := h3 i (by simp; omega)
  cases e3
  refine ⟨g, 0, rfl, Nat.lt_of_lt_of_le lt hb.size, ?_⟩
  rw [hb.cell (p := ⟨g, 0 + i, none⟩) lt, hc, List.getElem_append_left hi]

set_option maxRecDepth 20000 in
set_option maxHeartbeats 4000000 in
theorem wireNumbers_any (x : Nat) (y p : Int) (bs : List Nat) (v : Value) (w : World) (hx : x < 18446744073709551616) (y0 : -9223372036854775808 ≤ y) (y1 : y ≤ 9223372036854775807) (p0 : -9223372036854775808 ≤ p) (p1 : p ≤ 9223372036854775807)
    (hb : ∀ c ∈ bs, c < 256) (hl : bs.length ≤ 140737488351232) (h : RdB w v bs) :
    Calls Try.prog 5 #[.int .u64 (x : Int), .int .i64 y, v, .int .i64 p] w fun e w' => e = .returned (.bool true) ∧ Below w.heap.size w w' := by
  have PU : Hid (∀ w, Calls Try.prog 21 #[.int .u64 (x : Int)] w (NewB w (put x))) := fun w => putUint_at x hx w
  have PR : Hid (∀ w, Calls Try.prog 22 #[.int .u64 (x : Int)] w (NewB w (put x))) := fun w => rputUint_at x hx w
  have IU : Hid (∀ w, Calls Try.prog 12 #[.int .i64 y] w (NewB w (putI y))) := fun w => putInt_at y y0 y1 w
  have IR : Hid (∀ w, Calls Try.prog 23 #[.int .i64 y] w (NewB w (putI y))) := fun w => rputInt_at y y0 y1 w
  have lx : Hid ((put x).length ≤ 140737488351232) := by show _ ≤ _; have := put_len10 x hx; omega
  have ly : Hid ((putI y).length ≤ 140737488351232) := by show _ ≤ _; have := put_len10 (zz y) (zz_lt y y0 y1); unfold putI; omega
  have RV : Hid (∀ w', Below w.heap.size w w' → RdB w' v bs) := fun w' hb => Rd.later h hb
  have RR : Hid (∀ w' u, RdB w' u bs → Calls Try.prog 26 #[u, .int .i64 p] w' fun e w'' => e = rdAns (rd bs p) ∧ Below w'.heap.size w' w'') := fun w' u h => ruint_at bs p u w' hb (by omega) p0 p1 h
  have RU : Hid (∀ w' u, RdB w' u bs → Calls Try.prog 25 #[u, .int .i64 p] w' fun e w'' => e = rdAns (rd bs p) ∧ w'' = w') := fun w' u h => uint_at bs p u w' hb (by omega) p0 p1 h
  have SR : Hid (∀ w' u, RdB w' u bs → Calls Try.prog 28 #[u, .int .i64 p] w' fun e w'' => e = rdIAns (rd bs p) ∧ Below w'.heap.size w' w'') := fun w' u h => rint_at bs p u w' hb (by omega) p0 p1 h
  have SU : Hid (∀ w' u, RdB w' u bs → Calls Try.prog 27 #[u, .int .i64 p] w' fun e w'' => e = rdIAns (rd bs p) ∧ w'' = w') := fun w' u h => int_at bs p u w' hb (by omega) p0 p1 h
  obtain ⟨L, hL⟩ : ∃ L, bs.length = L := ⟨_, rfl⟩
  have HL : Hid (bs.length = L) := hL
  have hl' : L ≤ 140737488351232 := by omega
  obtain ⟨ao, cap, rfl, hcap, hn⟩ := h.len
  rw [List.length_map, hL] at hcap RV ⊢
  clear h hL hl hb y0 y1 p0 p1 hx
  go_enter Try.func5, Try.ntmps5
  go_wp2_with fail
  refine (PU.out _).mono ?_
  rintro e w1 ⟨v1, rfl, r1, b1⟩
  go_wp2_with fail
  refine (PU.out _).mono ?_
  rintro e w2 ⟨v2, rfl, r2, b2⟩
  go_wp2_with fail
  refine (PR.out _).mono ?_
  rintro e w3 ⟨v3, rfl, r3, b3⟩
  go_wp2_with fail
  have b12 := below_trans b1 b2
  have b123 := below_trans b12 b3
  have TA := told_at (put x) w.heap.size v1 v2 v3 w3 lx.out (RowV.later r1 (below_trans b2 b3)) (RowV.rd (RowV.later r2 b3)) (RowV.rd r3) (fun g h1 h2 => by have := r1.block_lt h2; have := r2.block_ge h1; omega) (fun g h1 h2 => by have := r1.block_lt h2; have := r3.block_ge h1; have := b2.size; omega)
  refine TA.mono ?_
  rintro e w4 ⟨rfl, g4⟩
  have B4 : Below w.heap.size w w4 := below_grown b123 (RowV.later r1 (below_trans b2 b3)) (Nat.le_refl _) b123.size g4
  clear TA g4 r1 r2 r3 b1 b2 b3 b12 b123
  go_wp2_with fail
  refine (IU.out _).mono ?_
  rintro e w5 ⟨v5, rfl, r5, b5⟩
  go_wp2_with fail
  refine (IU.out _).mono ?_
  rintro e w6 ⟨v6, rfl, r6, b6⟩
  go_wp2_with fail
  refine (IR.out _).mono ?_
  rintro e w7 ⟨v7, rfl, r7, b7⟩
  go_wp2_with fail
  have b56 := below_trans b5 b6
  have b567 := below_trans b56 b7
  have TA := told_at (putI y) w4.heap.size v5 v6 v7 w7 ly.out (RowV.later r5 (below_trans b6 b7)) (RowV.rd (RowV.later r6 b7)) (RowV.rd r7) (fun g h1 h2 => by have := r5.block_lt h2; have := r6.block_ge h1; omega) (fun g h1 h2 => by have := r5.block_lt h2; have := r7.block_ge h1; have := b6.size; omega)
  refine TA.mono ?_
  rintro e w8 ⟨rfl, g8⟩
  have B8 : Below w.heap.size w w8 := below_trans B4 (below_grown b567 (RowV.later r5 (below_trans b6 b7)) (Nat.le_refl _) b567.size g8)
  clear TA g8 r5 r6 r7 b5 b6 b7 b56 b567 B4
  go_wp2_with fail
  refine (roomy_at bs _ _ (by have := HL.out; omega) (RV.out _ B8)).mono ?_
  rintro e w9 ⟨v9, rfl, r9, b9⟩
  obtain ⟨g, c9, rfl, hc9, R9⟩ := RowV.pre (xs := bs.map bv) (ys := [90, 91, 92, 93].map bv) (by simpa [RowB, roomL] using r9) (by decide)
  rw [List.length_map, HL.out] at hc9 R9 ⊢
  have F9 : Hid (∀ w', Below w9.heap.size w9 w' → RdB w' (.slice (some ⟨g, 0, none⟩) (L + 4) c9) (roomL bs)) := fun w' hb => by
    have := Rd.later (RowV.rd r9) hb
    rw [List.length_map, HL.out] at this
    exact this
  have G9 : Hid (∀ w', Below w9.heap.size w9 w' → RdB w' (.slice (some ⟨g, 0, none⟩) L c9) bs) := R9
  have B9 : Below w.heap.size w w9 := below_trans B8 b9
  have hc9' : L + 4 ≤ c9 := by simpa using hc9
  clear r9 b9 B8 R9 hc9
  rw [rdAns_parts] at RR RU
  rw [rdIAns_parts] at SR SU
  generalize rv (rd bs p) = A at *
  generalize ri (rd bs p) = I at *
  generalize rn (rd bs p) = N at *
  generalize rk (rd bs p) = K at *
  have e1 : (A != A) = false := by simp
  have e2 : (N != N) = false := by simp
  have e3 : (K != K) = false := by simp
  have f1 : (I == I) = true := by simp
  have f2 : (N == N) = true := by simp
  have f3 : (K == K) = true := by simp
  have Z9 : Hid (Below w9.heap.size w9 w9) := Below.refl _ _
  go_wp2_with fail
  refine (RU.out _ _ (G9.out _ Z9.out)).mono ?_
  rintro e wx ⟨rfl, hw⟩; rw [hw]; clear hw wx
  go_wp2_with fail
  refine (RR.out _ _ (RV.out _ B9)).mono ?_
  rintro e w10 ⟨rfl, b10⟩
  have B10 := below_trans B9 b10
  go_wp2_with fail
  refine (SU.out _ _ (G9.out _ b10)).mono ?_
  rintro e wx ⟨rfl, hw⟩; rw [hw]; clear hw wx
  go_wp2_with fail
  refine (SR.out _ _ (RV.out _ B10)).mono ?_
  rintro e w11 ⟨rfl, b11⟩
  have B11 := below_trans B10 b11
  have Y11 := below_trans b10 b11
  go_wp2_with fail
  refine (still_at bs _ _ _ (by have := HL.out; omega) (F9.out _ Y11) (RV.out _ B11)).mono ?_
  rintro e w12 ⟨rfl, b12⟩
  go_wp2_with fail
  go_ret
  exact ⟨rfl, below_trans B11 b12⟩
end Go.Proofs.Ytfdahdloihgjeaa
