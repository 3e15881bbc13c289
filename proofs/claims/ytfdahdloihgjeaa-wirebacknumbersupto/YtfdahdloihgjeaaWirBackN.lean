/-
  Ours: the law WireBackNumbers walked.
-/
import Derived.Test.YtfdahdloihgjeaaWirBack
namespace Go.Proofs.Ytfdahdloihgjeaa
open Go.RowKit

theorem one_bv (bs : List Nat) : ∀ u ∈ bs.map bv, u.oneCell' = true := fun u hu => by obtain ⟨x, _, rfl⟩ := List.mem_map.1 hu; rfl
theorem len_max {a b : List Nat} (h : a.length + b.length ≤ 1000000000000) : (a.map bv).length + (b.map bv).length ≤ maxLen ∧ ((a.map bv).length + (b.map bv).length) * 1 ≤ 140737488355328 := by
  rw [List.length_map, List.length_map]; unfold maxLen; omega
theorem cat_row {e : TypeId} {base : Nat} {w : World} {v : Value} {a b : List Nat} (h : RowV e base w v (a.map bv ++ b.map bv)) : RowB e base w v (a ++ b) := by simpa [RowB] using h

set_option maxRecDepth 20000 in
set_option maxHeartbeats 2000000 in
theorem wireBackNumbers_any (fr : List Nat) (x : Nat) (y : Int) (z : Bool) (s : ByteArray) (xs : List Int) (tl : List Nat) (vf vl vt : Value) (w : World) (hf : ∀ c ∈ fr, c < 256) (hx : x < 18446744073709551616) (hy : -9223372036854775808 ≤ y ∧ y ≤ 9223372036854775807) (hi : I64s xs) (ht : ∀ c ∈ tl, c < 256)
    (l1 : fr.length ≤ 1048576) (l2 : s.size ≤ 1048576) (l3 : xs.length ≤ 1048576) (l4 : tl.length ≤ 1048576) (rf : RdB w vf fr) (rl : RdI w vl xs) (rt : RdB w vt tl) :
    Calls Try.prog 6 #[vf, .int .u64 (x : Int), .int .i64 y, .bool z, .string s, vl, vt] w fun e w' => e = .returned (.bool true) ∧ Below w.heap.size w w' := by
  obtain ⟨i0, hi0, hz0, hz1, hz2⟩ := info_parts infoB
  have CP : Hid (Calls Try.prog 16 #[vf] w (NewB w fr)) := copied_at fr vf w (by omega) rf
  have PU : Hid (∀ w, Calls Try.prog 21 #[.int .u64 (x : Int)] w (NewB w (put x))) := fun w => putUint_at x hx w
  have IU : Hid (∀ w, Calls Try.prog 12 #[.int .i64 y] w (NewB w (putI y))) := fun w => putInt_at y hy.1 hy.2 w
  have BU : Hid (∀ w, Calls Try.prog 30 #[.bool z] w (NewB w (putB z))) := fun w => putBool_at z w
  have TU : Hid (∀ w, Calls Try.prog 31 #[.string s] w (NewB w (putT (sB s)))) := fun w => putText_at s w (by omega)
  have NU : Hid (∀ w', Below w.heap.size w w' → Calls Try.prog 9 #[vl] w' fun e w'' => ∃ v', e = .returned v' ∧ RowI w'.heap.size w'' v' xs ∧ Below w'.heap.size w' w'') := fun w' h' => nums_at xs vl w' (by omega) (Rd.later rl h')
  have LU : Hid (∀ w v, RdI w v xs → Calls Try.prog 32 #[v] w (NewB w (putL xs))) := fun w v h => putInts_at xs v w hi (by omega) h
  have RL : Hid (∀ w', Below w.heap.size w w' → RdI w' vl xs) := fun w' h' => Rd.later rl h'
  have RT : Hid (∀ w', Below w.heap.size w w' → RdB w' vt tl) := fun w' h' => Rd.later rt h'
  obtain ⟨BB, BK⟩ := back_all fr x y z (sB s) xs tl hf hx hy (sB_byte s) (by rw [sB_len]; omega) (by omega) hi ht
  have m1 : (put x).length ≤ 10 := put_len10 x hx
  have m2 : (putI y).length ≤ 10 := putI_len y hy
  have m3 : (putB z).length = 1 := by cases z <;> rfl
  have m4 : (putT (sB s)).length ≤ 10 + 1048576 := by have := put_len10 (sB s).length (by rw [sB_len]; omega); have := sB_len s; unfold putT; rw [List.length_append]; omega
  have m5 : (putL xs).length ≤ 10 + 10 * 1048576 := by have := put_len10 xs.length (by omega); have := putFs_len xs hi; unfold putL; rw [List.length_append]; omega
  have TS : Hid (textOf (sB s) = s) := textOf_sB s
  have SX : xs.length ≤ 140737488355328 := by omega
  obtain ⟨af, cf, rfl, _, _⟩ := rf.len
  rw [List.length_map] at CP ⊢
  clear rf rl rt hf hx hy hi ht l2 l3
  generalize put x = p1 at *
  generalize putI y = p2 at *
  generalize putB z = p3 at *
  generalize putT (sB s) = p4 at *
  generalize putL xs = p5 at *
  obtain ⟨PP, hPP⟩ : ∃ P, fr ++ p1 ++ p2 ++ p3 ++ p4 ++ p5 ++ tl = P := ⟨_, rfl⟩
  have BK2 : Back x y z (sB s) xs fr.length (fr ++ p1).length (fr ++ p1 ++ p2).length (fr ++ p1 ++ p2 ++ p3).length (fr ++ p1 ++ p2 ++ p3 ++ p4).length (fr ++ p1 ++ p2 ++ p3 ++ p4 ++ p5).length (fr ++ p1 ++ p2 ++ p3 ++ p4 ++ p5 ++ tl) := BK
  have BB2 : ∀ c ∈ fr ++ p1 ++ p2 ++ p3 ++ p4 ++ p5 ++ tl, c < 256 := BB
  clear BK BB
  have N1 : (fr ++ p1).length ≤ 1048586 := by rw [List.length_append]; omega
  have N2 : (fr ++ p1 ++ p2).length ≤ 1048596 := by rw [List.length_append]; omega
  have N3 : (fr ++ p1 ++ p2 ++ p3).length ≤ 1048597 := by rw [List.length_append]; omega
  have N4 : (fr ++ p1 ++ p2 ++ p3 ++ p4).length ≤ 2097183 := by rw [List.length_append]; omega
  have N5 : (fr ++ p1 ++ p2 ++ p3 ++ p4 ++ p5).length ≤ 12582953 := by rw [List.length_append]; omega
  have N6 : (fr ++ p1 ++ p2 ++ p3 ++ p4 ++ p5 ++ tl).length ≤ 13631529 := by rw [List.length_append]; omega
  have K5 := len_max (a := fr ++ p1 ++ p2 ++ p3 ++ p4 ++ p5) (b := tl) (by omega)
  obtain ⟨n0, e0⟩ : ∃ n, fr.length = n := ⟨_, rfl⟩
  obtain ⟨n1, e1⟩ : ∃ n, (fr ++ p1).length = n := ⟨_, rfl⟩
  obtain ⟨n2, e2⟩ : ∃ n, (fr ++ p1 ++ p2).length = n := ⟨_, rfl⟩
  obtain ⟨n3, e3⟩ : ∃ n, (fr ++ p1 ++ p2 ++ p3).length = n := ⟨_, rfl⟩
  obtain ⟨n4, e4⟩ : ∃ n, (fr ++ p1 ++ p2 ++ p3 ++ p4).length = n := ⟨_, rfl⟩
  obtain ⟨n5, e5⟩ : ∃ n, (fr ++ p1 ++ p2 ++ p3 ++ p4 ++ p5).length = n := ⟨_, rfl⟩
  have E5 : Hid ((fr ++ p1 ++ p2 ++ p3 ++ p4 ++ p5).length = n5) := e5
  have y0 : n0 ≤ 1048576 := by omega
  have y1 : n1 ≤ 1048586 := by omega
  have y2 : n2 ≤ 1048596 := by omega
  have y3 : n3 ≤ 1048597 := by omega
  have y4 : n4 ≤ 2097183 := by omega
  have y5 : n5 ≤ 12582953 := by omega
  rw [hPP, e0, e1, e2, e3, e4, e5] at BK2
  rw [hPP] at BB2 N6
  have PQ : Hid (fr ++ p1 ++ p2 ++ p3 ++ p4 ++ p5 ++ tl = PP) := hPP
  have J1 : Hid (∀ w' v, RdB w' v PP → Calls Try.prog 25 #[v, .int .i64 (n0 : Int)] w' fun e w'' => e = .returned (.tuple #[.int .u64 (x : Int), .int .i64 (n1 : Int), .bool true]) ∧ w'' = w') := fun w' v h => by
    have := uint_at PP n0 v w' BB2 (by omega) (by omega) (by omega) h
    rw [BK2.r1] at this; exact this
  have J2 : Hid (∀ w' v, RdB w' v PP → Calls Try.prog 27 #[v, .int .i64 (n1 : Int)] w' fun e w'' => e = .returned (.tuple #[.int .i64 y, .int .i64 (n2 : Int), .bool true]) ∧ w'' = w') := fun w' v h => by
    have := int_at PP n1 v w' BB2 (by omega) (by omega) (by omega) h
    rw [BK2.r2] at this; simp only [rdIAns, unzz_zz] at this; exact this
  have J3 : Hid (∀ w' v, RdB w' v PP → Calls Try.prog 33 #[v, .int .i64 (n2 : Int)] w' fun e w'' => e = .returned (.tuple #[.bool z, .int .i64 (n3 : Int), .bool true]) ∧ w'' = w') := fun w' v h => by
    have := bool_at PP n2 v w' BB2 (by omega) (by omega) (by omega) h
    rw [BK2.r3] at this; exact this
  have J4 : Hid (∀ w' v, RdB w' v PP → Calls Try.prog 34 #[v, .int .i64 (n3 : Int)] w' fun e w'' => e = .returned (.tuple #[.string s, .int .i64 (n4 : Int), .bool true]) ∧ w'' = w') := fun w' v h => by
    have := text_at PP n3 v w' BB2 (by omega) (by omega) (by omega) h
    rw [BK2.r4] at this; simp only [textAns, textOf_sB] at this; exact this
  have J5 : Hid (∀ w' v, RdB w' v PP → Calls Try.prog 35 #[v, .int .i64 (n4 : Int)] w' fun e w'' => ∃ u, e = .returned (.tuple #[u, .int .i64 (n5 : Int), .bool true]) ∧ RdI w'' u xs ∧ Below w'.heap.size w' w'') := fun w' v h => by
    have := ints_at PP n4 v w' BB2 (by omega) (by omega) (by omega) h
    rw [BK2.r5] at this
    refine this.mono ?_
    rintro e w'' ⟨u, ys, q, k, rfl, r, b, (⟨h1, _⟩ | ⟨h1, rfl⟩)⟩
    · cases h1
    · cases h1; exact ⟨u, rfl, RowV.rd r, b⟩
  have f1 : ((x : Int) != (x : Int)) = false := by simp
  have f2 : (y != y) = false := by simp
  have f3 : (z != z) = false := by simp
  have f4 : (s.toList != s.toList) = false := by simp
  have f5 : ((n5 : Int) == (n5 : Int)) = true := by simp
  rw [e0]
  rw [e0] at CP
  clear hPP e0 e1 e2 e3 e4 e5 BK2 BB2 TS
  go_enter Try.func6, Try.ntmps6
  go_wp2_with fail
  refine CP.out.mono ?_
  rintro e w1 ⟨v1, rfl, r1, b1⟩
  go_wp2_with fail
  refine (PU.out _).mono ?_
  rintro e w2 ⟨v2, rfl, r2, b2⟩
  have o2 := RowV.later r1 b2
  have q2 := RowV.rd r2
  have B2 := below_trans b1 b2
  have s2 := B2.size
  have k2 := len_max (a := fr) (b := p1) (by omega)
  have n2 := one_bv p1
  clear r1 r2 b1 b2
  go_wp2_with (at_builtin; refine wpList_catV rfl (.tmp 26) (.tmp 28) 25 rfl 5 i0 (.int .u8 0) 1 underB hi0 hz0 hz1 hz2 rfl w.heap.size _ _ _ _ n2 rfl o2 s2 rfl q2 k2.1 k2.2 ?_; intro v3 w3 r3 g3)
  have B3 : Below w.heap.size w w3 := below_grown B2 o2 (Nat.le_refl _) s2 g3
  have r3' := cat_row r3
  clear o2 q2 B2 s2 k2 n2 r3 g3
  refine (IU.out _).mono ?_
  rintro e w4 ⟨v4, rfl, r4, b4⟩
  have o2 := RowV.later r3' b4
  have q2 := RowV.rd r4
  have B2 := below_trans B3 b4
  have s2 := B2.size
  have k2 := len_max (a := fr ++ p1) (b := p2) (by omega)
  have n2 := one_bv p2
  clear r3' r4 B3 b4
  go_wp2_with (at_builtin; refine wpList_catV rfl (.tmp 30) (.tmp 32) 25 rfl 5 i0 (.int .u8 0) 1 underB hi0 hz0 hz1 hz2 rfl w.heap.size _ _ _ _ n2 rfl o2 s2 rfl q2 k2.1 k2.2 ?_; intro v5 w5 r5 g5)
  have B5 : Below w.heap.size w w5 := below_grown B2 o2 (Nat.le_refl _) s2 g5
  have r5' := cat_row r5
  clear o2 q2 B2 s2 k2 n2 r5 g5
  refine (BU.out _).mono ?_
  rintro e w6 ⟨v6, rfl, r6, b6⟩
  have o2 := RowV.later r5' b6
  have q2 := RowV.rd r6
  have B2 := below_trans B5 b6
  have s2 := B2.size
  have k2 := len_max (a := fr ++ p1 ++ p2) (b := p3) (by omega)
  have n2 := one_bv p3
  clear r5' r6 B5 b6
  go_wp2_with (at_builtin; refine wpList_catV rfl (.tmp 34) (.tmp 36) 25 rfl 5 i0 (.int .u8 0) 1 underB hi0 hz0 hz1 hz2 rfl w.heap.size _ _ _ _ n2 rfl o2 s2 rfl q2 k2.1 k2.2 ?_; intro v7 w7 r7 g7)
  have B7 : Below w.heap.size w w7 := below_grown B2 o2 (Nat.le_refl _) s2 g7
  have r7' := cat_row r7
  clear o2 q2 B2 s2 k2 n2 r7 g7
  refine (TU.out _).mono ?_
  rintro e w8 ⟨v8, rfl, r8, b8⟩
  have o2 := RowV.later r7' b8
  have q2 := RowV.rd r8
  have B2 := below_trans B7 b8
  have s2 := B2.size
  have k2 := len_max (a := fr ++ p1 ++ p2 ++ p3) (b := p4) (by omega)
  have n2 := one_bv p4
  clear r7' r8 B7 b8
  go_wp2_with (at_builtin; refine wpList_catV rfl (.tmp 38) (.tmp 40) 25 rfl 5 i0 (.int .u8 0) 1 underB hi0 hz0 hz1 hz2 rfl w.heap.size _ _ _ _ n2 rfl o2 s2 rfl q2 k2.1 k2.2 ?_; intro v9 w9 r9 g9)
  have B9 : Below w.heap.size w w9 := below_grown B2 o2 (Nat.le_refl _) s2 g9
  have r9' := cat_row r9
  clear o2 q2 B2 s2 k2 n2 r9 g9
  refine (NU.out _ B9).mono ?_
  rintro e wa ⟨va, rfl, ra, ba⟩
  go_wp2_with fail
  refine (LU.out _ _ (RowV.rd ra)).mono ?_
  rintro e wb ⟨vb, rfl, rb, bb⟩
  have o2 := RowV.later r9' (below_trans ba bb)
  have q2 := RowV.rd rb
  have B2 := below_trans B9 (below_trans ba bb)
  have s2 := B2.size
  have k2 := len_max (a := fr ++ p1 ++ p2 ++ p3 ++ p4) (b := p5) (by omega)
  have n2 := one_bv p5
  clear r9' rb B9 ba bb ra
  go_wp2_with (first
    | (at_builtin; refine wpList_catV rfl (.tmp 42) (.tmp 45) 25 rfl 5 i0 (.int .u8 0) 1 underB hi0 hz0 hz1 hz2 rfl w.heap.size _ _ _ _ n2 rfl o2 s2 rfl q2 k2.1 k2.2 ?_; intro vc wc rc gc; have BC : Below w.heap.size w wc := below_grown B2 o2 (Nat.le_refl _) s2 gc; have rc' := cat_row rc; obtain ⟨ac, cc, ev, hc1, hc2⟩ := (RowV.rd rc').len; rw [List.length_map, E5.out] at ev; subst ev; have sC := BC.size; have tC := RT.out _ BC; have nC := one_bv tl; clear rc gc hc1 o2 q2 B2 s2 k2 n2)
    | (at_builtin; refine wpList_catV rfl (.tmp 49) (.tmp 50) 25 rfl 5 i0 (.int .u8 0) 1 underB hi0 hz0 hz1 hz2 rfl w.heap.size _ _ _ _ nC rfl rc' sC rfl tC K5.1 K5.2 ?_; intro vd wd rd' gd; have BD : Below w.heap.size w wd := below_grown BC rc' (Nat.le_refl _) sC gd; have RD2 := cat_row rd'; rw [PQ.out] at RD2; have RDD : Hid (∀ w', Below wd.heap.size wd w' → RdB w' vd PP) := fun w' h => Rd.later (RowV.rd RD2) h; clear rd' gd RD2 rc' tC nC))
  refine (J1.out _ _ (RDD.out _ (Below.refl _ _))).mono ?_
  rintro e wx ⟨rfl, hw⟩; rw [hw]; clear hw wx
  go_wp2_with fail
  refine (J2.out _ _ (RDD.out _ (Below.refl _ _))).mono ?_
  rintro e wx ⟨rfl, hw⟩; rw [hw]; clear hw wx
  go_wp2_with fail
  refine (J3.out _ _ (RDD.out _ (Below.refl _ _))).mono ?_
  rintro e wx ⟨rfl, hw⟩; rw [hw]; clear hw wx
  go_wp2_with fail
  refine (J4.out _ _ (RDD.out _ (Below.refl _ _))).mono ?_
  rintro e wx ⟨rfl, hw⟩; rw [hw]; clear hw wx
  go_wp2_with fail
  refine (J5.out _ _ (RDD.out _ (Below.refl _ _))).mono ?_
  rintro e we ⟨u, rfl, ru, be⟩
  have BE := below_trans BD be
  have RU : Hid (RdI we u xs) := ru
  clear ru
  go_wp2_with fail
  refine (sameNums_at xs xs _ _ _ SX RU.out (RL.out _ BE)).mono ?_
  rintro e wf ⟨rfl, n, rfl⟩
  rw [decide_eq_true rfl]
  go_wp2_with fail
  go_ret
  exact ⟨rfl, below_drewN BE n⟩
end Go.Proofs.Ytfdahdloihgjeaa
