/-
  Ours: the program's EncodeOp.
-/
import Derived.Test.YtdbjjeaflfoppaaWirTxt
import Derived.Test.YtdbjjeaflfoppaaWirFld
namespace Go.Proofs.Ytdbjjeaflfoppaa
open Go.RowKit

theorem one_bv (bs : List Nat) : ∀ u ∈ bs.map bv, u.oneCell' = true := fun u hu => by obtain ⟨x, _, rfl⟩ := List.mem_map.1 hu; rfl
theorem len_max {a b : List Nat} (h : a.length + b.length ≤ 1000000000000) : (a.map bv).length + (b.map bv).length ≤ maxLen ∧ ((a.map bv).length + (b.map bv).length) * 1 ≤ 140737488355328 := by
  rw [List.length_map, List.length_map]; unfold maxLen; omega
theorem cat_row {e : TypeId} {base : Nat} {w : World} {v : Value} {a b : List Nat} (h : RowV e base w v (a.map bv ++ b.map bv)) : RowB e base w v (a ++ b) := by simpa [RowB] using h

def I64 (x : Int) : Prop := -9223372036854775808 ≤ x ∧ x ≤ 9223372036854775807
/-- An operation. -/
structure OpV where
  kind : Int
  loan : Int
  amount : Int
  rate : Int
  count : Int
  days : Int
  text : ByteArray
structure OpV.Ok (o : OpV) : Prop where
  kind : I64 o.kind
  loan : I64 o.loan
  amount : I64 o.amount
  rate : I64 o.rate
  count : I64 o.count
  days : I64 o.days
  text : o.text.size ≤ 1000000000
def opV (o : OpV) : Value := .agg #[.int .i64 o.kind, .int .i64 o.loan, .int .i64 o.amount, .int .i64 o.rate, .int .i64 o.count, .int .i64 o.days, .string o.text]
/-- The bytes of an operation whose kind has this mask. -/
def opM (m : Nat) (o : OpV) : List Nat := putI o.kind ++ (if m % 2 = 1 then putI o.loan else []) ++ (if m / 2 % 2 = 1 then putI o.amount else []) ++ (if m / 4 % 2 = 1 then putI o.rate else []) ++ (if m / 8 % 2 = 1 then putI o.count else []) ++ (if m / 16 % 2 = 1 then putI o.days else []) ++ (if m / 32 % 2 = 1 then putT (sB o.text) else [])
def opL (o : OpV) : List Nat := match fmask o.kind with
  | some m => opM m o
  | none => []

theorem putNumber_at (y : Int) (h : I64 y) (w : World) : Calls Try.prog 37 #[.int .i64 y] w (NewB w (putI y)) := by
  have U : Hid (Calls Try.prog 47 #[.int .i64 y] w (NewB w (putI y))) := putInt_at y h.1 h.2 w
  clear h
  go_enter Try.func37, Try.ntmps37
  go_wp2_with fail
  refine U.out.mono ?_
  rintro e w1 ⟨v1, rfl, r1, b1⟩
  go_wp2_with fail
  go_ret
  exact ⟨_, rfl, r1, b1⟩

set_option maxRecDepth 20000 in
set_option maxHeartbeats 1000000 in
theorem encodeOp_31 (o : OpV) (ok : o.Ok) (hm : fmask o.kind = some 31) (w : World) : Calls Try.prog 19 #[opV o] w (NewB w (opL o)) := by
  obtain ⟨i0, hi0, hz0, hz1, hz2⟩ := info_parts infoB
  obtain ⟨f0, f1, f2, f3, f4, f5, f6⟩ := o
  obtain ⟨k0, k1, k2, k3, k4, k5, k6⟩ := ok
  have E : Hid (opL ⟨f0, f1, f2, f3, f4, f5, f6⟩ = putI f0 ++ putI f1 ++ putI f2 ++ putI f3 ++ putI f4 ++ putI f5) := by
    show _ = _
    unfold opL; rw [hm]; simp [opM]
  have FO : Hid (∀ w, Calls Try.prog 46 #[.int .i64 f0] w fun e w' => e = .returned (.tuple #[.int .i64 31, .bool true]) ∧ w' = w) := fun w => by
    have := fieldsOf_at f0 w
    simp only at hm
    rw [hm] at this; exact this
  have P0 : Hid (∀ w, Calls Try.prog 37 #[.int .i64 f0] w (NewB w (putI f0))) := fun w => putNumber_at f0 k0 w
  have l0 : (putI f0).length ≤ 10 := putI_len f0 k0
  have P1 : Hid (∀ w, Calls Try.prog 37 #[.int .i64 f1] w (NewB w (putI f1))) := fun w => putNumber_at f1 k1 w
  have l1 : (putI f1).length ≤ 10 := putI_len f1 k1
  have P2 : Hid (∀ w, Calls Try.prog 47 #[.int .i64 f2] w (NewB w (putI f2))) := fun w => putInt_at f2 k2.1 k2.2 w
  have l2 : (putI f2).length ≤ 10 := putI_len f2 k2
  have P3 : Hid (∀ w, Calls Try.prog 47 #[.int .i64 f3] w (NewB w (putI f3))) := fun w => putInt_at f3 k3.1 k3.2 w
  have l3 : (putI f3).length ≤ 10 := putI_len f3 k3
  have P4 : Hid (∀ w, Calls Try.prog 37 #[.int .i64 f4] w (NewB w (putI f4))) := fun w => putNumber_at f4 k4 w
  have l4 : (putI f4).length ≤ 10 := putI_len f4 k4
  have P5 : Hid (∀ w, Calls Try.prog 37 #[.int .i64 f5] w (NewB w (putI f5))) := fun w => putNumber_at f5 k5 w
  have l5 : (putI f5).length ≤ 10 := putI_len f5 k5
  unfold opV
  clear hm k0 k1 k2 k3 k4 k5 k6
  simp only
  generalize putI f0 = q0 at *
  generalize putI f1 = q1 at *
  generalize putI f2 = q2 at *
  generalize putI f3 = q3 at *
  generalize putI f4 = q4 at *
  generalize putI f5 = q5 at *
  have BW := below_alloc w (.cells #[.int .i64 f0, .int .i64 f1, .int .i64 f2, .int .i64 f3, .int .i64 f4, .int .i64 f5, .string f6] 23)
  have LW : w.heap.size < (w.alloc (.cells #[.int .i64 f0, .int .i64 f1, .int .i64 f2, .int .i64 f3, .int .i64 f4, .int .i64 f5, .string f6] 23)).heap.size := by simp
  have CW0 : (w.alloc (.cells #[.int .i64 f0, .int .i64 f1, .int .i64 f2, .int .i64 f3, .int .i64 f4, .int .i64 f5, .string f6] 23)).cell? ⟨w.heap.size, 0, none⟩ = some (.int .i64 f0) := by simp
  have CW1 : (w.alloc (.cells #[.int .i64 f0, .int .i64 f1, .int .i64 f2, .int .i64 f3, .int .i64 f4, .int .i64 f5, .string f6] 23)).cell? ⟨w.heap.size, 1, none⟩ = some (.int .i64 f1) := by simp
  have CW2 : (w.alloc (.cells #[.int .i64 f0, .int .i64 f1, .int .i64 f2, .int .i64 f3, .int .i64 f4, .int .i64 f5, .string f6] 23)).cell? ⟨w.heap.size, 2, none⟩ = some (.int .i64 f2) := by simp
  have CW3 : (w.alloc (.cells #[.int .i64 f0, .int .i64 f1, .int .i64 f2, .int .i64 f3, .int .i64 f4, .int .i64 f5, .string f6] 23)).cell? ⟨w.heap.size, 3, none⟩ = some (.int .i64 f3) := by simp
  have CW4 : (w.alloc (.cells #[.int .i64 f0, .int .i64 f1, .int .i64 f2, .int .i64 f3, .int .i64 f4, .int .i64 f5, .string f6] 23)).cell? ⟨w.heap.size, 4, none⟩ = some (.int .i64 f4) := by simp
  have CW5 : (w.alloc (.cells #[.int .i64 f0, .int .i64 f1, .int .i64 f2, .int .i64 f3, .int .i64 f4, .int .i64 f5, .string f6] 23)).cell? ⟨w.heap.size, 5, none⟩ = some (.int .i64 f5) := by simp
  have CW6 : (w.alloc (.cells #[.int .i64 f0, .int .i64 f1, .int .i64 f2, .int .i64 f3, .int .i64 f4, .int .i64 f5, .string f6] 23)).cell? ⟨w.heap.size, 6, none⟩ = some (.string f6) := by simp
  go_enter Try.func19, Try.ntmps19
  go_wp2_with fail
  generalize w.alloc (.cells #[.int .i64 f0, .int .i64 f1, .int .i64 f2, .int .i64 f3, .int .i64 f4, .int .i64 f5, .string f6] 23) = W0 at *
  refine (FO.out _).mono ?_
  rintro e wx ⟨rfl, hw⟩; rw [hw]; clear hw wx
  go_wp2_with fail
  refine (P0.out _).mono ?_
  rintro e w1 ⟨v1, rfl, r1, B1⟩
  have cw1 : w1.cell? ⟨w.heap.size, 1, none⟩ = some (.int .i64 f1) := (B1.cell (p := ⟨w.heap.size, 1, none⟩) LW).trans CW1
  go_wp2_with fail
  refine (P1.out _).mono ?_
  rintro e x2 ⟨y2, rfl, s2, d2⟩
  have o2 := RowV.later r1 d2
  have q22 := RowV.rd s2
  have B22 := below_trans B1 d2
  have s22 := B22.size
  have k22 := len_max (a := q0) (b := q1) (by (try simp only [List.length_append]); omega)
  have n22 := one_bv q1
  clear r1 s2 d2 B1
  go_wp2_with (at_builtin; refine wpList_catV rfl (.tmp 20) (.tmp 23) 33 rfl 5 i0 (.int .u8 0) 1 underB hi0 hz0 hz1 hz2 rfl W0.heap.size _ _ _ _ n22 rfl o2 s22 rfl q22 k22.1 k22.2 ?_; intro v2 w2 t2 g2; have B2 : Below W0.heap.size W0 w2 := below_grown B22 o2 (Nat.le_refl _) s22 g2; have r2 := cat_row t2; have cw2 : w2.cell? ⟨w.heap.size, 2, none⟩ = some (.int .i64 f2) := (B2.cell (p := ⟨w.heap.size, 2, none⟩) LW).trans CW2; clear t2 g2 o2 q22 B22 s22 k22 n22)
  refine (P2.out _).mono ?_
  rintro e x3 ⟨y3, rfl, s3, d3⟩
  have o3 := RowV.later r2 d3
  have q23 := RowV.rd s3
  have B23 := below_trans B2 d3
  have s23 := B23.size
  have k23 := len_max (a := q0 ++ q1) (b := q2) (by (try simp only [List.length_append]); omega)
  have n23 := one_bv q2
  clear r2 s3 d3 B2
  go_wp2_with (at_builtin; refine wpList_catV rfl (.tmp 28) (.tmp 31) 33 rfl 5 i0 (.int .u8 0) 1 underB hi0 hz0 hz1 hz2 rfl W0.heap.size _ _ _ _ n23 rfl o3 s23 rfl q23 k23.1 k23.2 ?_; intro v3 w3 t3 g3; have B3 : Below W0.heap.size W0 w3 := below_grown B23 o3 (Nat.le_refl _) s23 g3; have r3 := cat_row t3; have cw3 : w3.cell? ⟨w.heap.size, 3, none⟩ = some (.int .i64 f3) := (B3.cell (p := ⟨w.heap.size, 3, none⟩) LW).trans CW3; clear t3 g3 o3 q23 B23 s23 k23 n23)
  refine (P3.out _).mono ?_
  rintro e x4 ⟨y4, rfl, s4, d4⟩
  have o4 := RowV.later r3 d4
  have q24 := RowV.rd s4
  have B24 := below_trans B3 d4
  have s24 := B24.size
  have k24 := len_max (a := q0 ++ q1 ++ q2) (b := q3) (by (try simp only [List.length_append]); omega)
  have n24 := one_bv q3
  clear r3 s4 d4 B3
  go_wp2_with (at_builtin; refine wpList_catV rfl (.tmp 36) (.tmp 39) 33 rfl 5 i0 (.int .u8 0) 1 underB hi0 hz0 hz1 hz2 rfl W0.heap.size _ _ _ _ n24 rfl o4 s24 rfl q24 k24.1 k24.2 ?_; intro v4 w4 t4 g4; have B4 : Below W0.heap.size W0 w4 := below_grown B24 o4 (Nat.le_refl _) s24 g4; have r4 := cat_row t4; have cw4 : w4.cell? ⟨w.heap.size, 4, none⟩ = some (.int .i64 f4) := (B4.cell (p := ⟨w.heap.size, 4, none⟩) LW).trans CW4; clear t4 g4 o4 q24 B24 s24 k24 n24)
  refine (P4.out _).mono ?_
  rintro e x5 ⟨y5, rfl, s5, d5⟩
  have o5 := RowV.later r4 d5
  have q25 := RowV.rd s5
  have B25 := below_trans B4 d5
  have s25 := B25.size
  have k25 := len_max (a := q0 ++ q1 ++ q2 ++ q3) (b := q4) (by (try simp only [List.length_append]); omega)
  have n25 := one_bv q4
  clear r4 s5 d5 B4
  go_wp2_with (at_builtin; refine wpList_catV rfl (.tmp 44) (.tmp 47) 33 rfl 5 i0 (.int .u8 0) 1 underB hi0 hz0 hz1 hz2 rfl W0.heap.size _ _ _ _ n25 rfl o5 s25 rfl q25 k25.1 k25.2 ?_; intro v5 w5 t5 g5; have B5 : Below W0.heap.size W0 w5 := below_grown B25 o5 (Nat.le_refl _) s25 g5; have r5 := cat_row t5; have cw5 : w5.cell? ⟨w.heap.size, 5, none⟩ = some (.int .i64 f5) := (B5.cell (p := ⟨w.heap.size, 5, none⟩) LW).trans CW5; clear t5 g5 o5 q25 B25 s25 k25 n25)
  refine (P5.out _).mono ?_
  rintro e x6 ⟨y6, rfl, s6, d6⟩
  have o6 := RowV.later r5 d6
  have q26 := RowV.rd s6
  have B26 := below_trans B5 d6
  have s26 := B26.size
  have k26 := len_max (a := q0 ++ q1 ++ q2 ++ q3 ++ q4) (b := q5) (by (try simp only [List.length_append]); omega)
  have n26 := one_bv q5
  clear r5 s6 d6 B5
  go_wp2_with (at_builtin; refine wpList_catV rfl (.tmp 52) (.tmp 55) 33 rfl 5 i0 (.int .u8 0) 1 underB hi0 hz0 hz1 hz2 rfl W0.heap.size _ _ _ _ n26 rfl o6 s26 rfl q26 k26.1 k26.2 ?_; intro v6 w6 t6 g6; have B6 : Below W0.heap.size W0 w6 := below_grown B26 o6 (Nat.le_refl _) s26 g6; have r6 := cat_row t6; clear t6 g6 o6 q26 B26 s26 k26 n26)
  go_ret
  refine ⟨_, rfl, ?_, below_trans BW B6⟩
  rw [E.out]
  exact RowV.mono r6 (Nat.le_of_lt LW)

set_option maxRecDepth 20000 in
set_option maxHeartbeats 1000000 in
theorem encodeOp_11 (o : OpV) (ok : o.Ok) (hm : fmask o.kind = some 11) (w : World) : Calls Try.prog 19 #[opV o] w (NewB w (opL o)) := by
  obtain ⟨i0, hi0, hz0, hz1, hz2⟩ := info_parts infoB
  obtain ⟨f0, f1, f2, f3, f4, f5, f6⟩ := o
  obtain ⟨k0, k1, k2, k3, k4, k5, k6⟩ := ok
  have E : Hid (opL ⟨f0, f1, f2, f3, f4, f5, f6⟩ = putI f0 ++ putI f1 ++ putI f2 ++ putI f4) := by
    show _ = _
    unfold opL; rw [hm]; simp [opM]
  have FO : Hid (∀ w, Calls Try.prog 46 #[.int .i64 f0] w fun e w' => e = .returned (.tuple #[.int .i64 11, .bool true]) ∧ w' = w) := fun w => by
    have := fieldsOf_at f0 w
    simp only at hm
    rw [hm] at this; exact this
  have P0 : Hid (∀ w, Calls Try.prog 37 #[.int .i64 f0] w (NewB w (putI f0))) := fun w => putNumber_at f0 k0 w
  have l0 : (putI f0).length ≤ 10 := putI_len f0 k0
  have P1 : Hid (∀ w, Calls Try.prog 37 #[.int .i64 f1] w (NewB w (putI f1))) := fun w => putNumber_at f1 k1 w
  have l1 : (putI f1).length ≤ 10 := putI_len f1 k1
  have P2 : Hid (∀ w, Calls Try.prog 47 #[.int .i64 f2] w (NewB w (putI f2))) := fun w => putInt_at f2 k2.1 k2.2 w
  have l2 : (putI f2).length ≤ 10 := putI_len f2 k2
  have P4 : Hid (∀ w, Calls Try.prog 37 #[.int .i64 f4] w (NewB w (putI f4))) := fun w => putNumber_at f4 k4 w
  have l4 : (putI f4).length ≤ 10 := putI_len f4 k4
  unfold opV
  clear hm k0 k1 k2 k3 k4 k5 k6
  simp only
  generalize putI f0 = q0 at *
  generalize putI f1 = q1 at *
  generalize putI f2 = q2 at *
  generalize putI f4 = q4 at *
  have BW := below_alloc w (.cells #[.int .i64 f0, .int .i64 f1, .int .i64 f2, .int .i64 f3, .int .i64 f4, .int .i64 f5, .string f6] 23)
  have LW : w.heap.size < (w.alloc (.cells #[.int .i64 f0, .int .i64 f1, .int .i64 f2, .int .i64 f3, .int .i64 f4, .int .i64 f5, .string f6] 23)).heap.size := by simp
  have CW0 : (w.alloc (.cells #[.int .i64 f0, .int .i64 f1, .int .i64 f2, .int .i64 f3, .int .i64 f4, .int .i64 f5, .string f6] 23)).cell? ⟨w.heap.size, 0, none⟩ = some (.int .i64 f0) := by simp
  have CW1 : (w.alloc (.cells #[.int .i64 f0, .int .i64 f1, .int .i64 f2, .int .i64 f3, .int .i64 f4, .int .i64 f5, .string f6] 23)).cell? ⟨w.heap.size, 1, none⟩ = some (.int .i64 f1) := by simp
  have CW2 : (w.alloc (.cells #[.int .i64 f0, .int .i64 f1, .int .i64 f2, .int .i64 f3, .int .i64 f4, .int .i64 f5, .string f6] 23)).cell? ⟨w.heap.size, 2, none⟩ = some (.int .i64 f2) := by simp
  have CW3 : (w.alloc (.cells #[.int .i64 f0, .int .i64 f1, .int .i64 f2, .int .i64 f3, .int .i64 f4, .int .i64 f5, .string f6] 23)).cell? ⟨w.heap.size, 3, none⟩ = some (.int .i64 f3) := by simp
  have CW4 : (w.alloc (.cells #[.int .i64 f0, .int .i64 f1, .int .i64 f2, .int .i64 f3, .int .i64 f4, .int .i64 f5, .string f6] 23)).cell? ⟨w.heap.size, 4, none⟩ = some (.int .i64 f4) := by simp
  have CW5 : (w.alloc (.cells #[.int .i64 f0, .int .i64 f1, .int .i64 f2, .int .i64 f3, .int .i64 f4, .int .i64 f5, .string f6] 23)).cell? ⟨w.heap.size, 5, none⟩ = some (.int .i64 f5) := by simp
  have CW6 : (w.alloc (.cells #[.int .i64 f0, .int .i64 f1, .int .i64 f2, .int .i64 f3, .int .i64 f4, .int .i64 f5, .string f6] 23)).cell? ⟨w.heap.size, 6, none⟩ = some (.string f6) := by simp
  go_enter Try.func19, Try.ntmps19
  go_wp2_with fail
  generalize w.alloc (.cells #[.int .i64 f0, .int .i64 f1, .int .i64 f2, .int .i64 f3, .int .i64 f4, .int .i64 f5, .string f6] 23) = W0 at *
  refine (FO.out _).mono ?_
  rintro e wx ⟨rfl, hw⟩; rw [hw]; clear hw wx
  go_wp2_with fail
  refine (P0.out _).mono ?_
  rintro e w1 ⟨v1, rfl, r1, B1⟩
  have cw1 : w1.cell? ⟨w.heap.size, 1, none⟩ = some (.int .i64 f1) := (B1.cell (p := ⟨w.heap.size, 1, none⟩) LW).trans CW1
  go_wp2_with fail
  refine (P1.out _).mono ?_
  rintro e x2 ⟨y2, rfl, s2, d2⟩
  have o2 := RowV.later r1 d2
  have q22 := RowV.rd s2
  have B22 := below_trans B1 d2
  have s22 := B22.size
  have k22 := len_max (a := q0) (b := q1) (by (try simp only [List.length_append]); omega)
  have n22 := one_bv q1
  clear r1 s2 d2 B1
  go_wp2_with (at_builtin; refine wpList_catV rfl (.tmp 20) (.tmp 23) 33 rfl 5 i0 (.int .u8 0) 1 underB hi0 hz0 hz1 hz2 rfl W0.heap.size _ _ _ _ n22 rfl o2 s22 rfl q22 k22.1 k22.2 ?_; intro v2 w2 t2 g2; have B2 : Below W0.heap.size W0 w2 := below_grown B22 o2 (Nat.le_refl _) s22 g2; have r2 := cat_row t2; have cw2 : w2.cell? ⟨w.heap.size, 2, none⟩ = some (.int .i64 f2) := (B2.cell (p := ⟨w.heap.size, 2, none⟩) LW).trans CW2; clear t2 g2 o2 q22 B22 s22 k22 n22)
  refine (P2.out _).mono ?_
  rintro e x3 ⟨y3, rfl, s3, d3⟩
  have o3 := RowV.later r2 d3
  have q23 := RowV.rd s3
  have B23 := below_trans B2 d3
  have s23 := B23.size
  have k23 := len_max (a := q0 ++ q1) (b := q2) (by (try simp only [List.length_append]); omega)
  have n23 := one_bv q2
  clear r2 s3 d3 B2
  go_wp2_with (at_builtin; refine wpList_catV rfl (.tmp 28) (.tmp 31) 33 rfl 5 i0 (.int .u8 0) 1 underB hi0 hz0 hz1 hz2 rfl W0.heap.size _ _ _ _ n23 rfl o3 s23 rfl q23 k23.1 k23.2 ?_; intro v3 w3 t3 g3; have B3 : Below W0.heap.size W0 w3 := below_grown B23 o3 (Nat.le_refl _) s23 g3; have r3 := cat_row t3; have cw3 : w3.cell? ⟨w.heap.size, 4, none⟩ = some (.int .i64 f4) := (B3.cell (p := ⟨w.heap.size, 4, none⟩) LW).trans CW4; clear t3 g3 o3 q23 B23 s23 k23 n23)
  refine (P4.out _).mono ?_
  rintro e x4 ⟨y4, rfl, s4, d4⟩
  have o4 := RowV.later r3 d4
  have q24 := RowV.rd s4
  have B24 := below_trans B3 d4
  have s24 := B24.size
  have k24 := len_max (a := q0 ++ q1 ++ q2) (b := q4) (by (try simp only [List.length_append]); omega)
  have n24 := one_bv q4
  clear r3 s4 d4 B3
  go_wp2_with (at_builtin; refine wpList_catV rfl (.tmp 44) (.tmp 47) 33 rfl 5 i0 (.int .u8 0) 1 underB hi0 hz0 hz1 hz2 rfl W0.heap.size _ _ _ _ n24 rfl o4 s24 rfl q24 k24.1 k24.2 ?_; intro v4 w4 t4 g4; have B4 : Below W0.heap.size W0 w4 := below_grown B24 o4 (Nat.le_refl _) s24 g4; have r4 := cat_row t4; clear t4 g4 o4 q24 B24 s24 k24 n24)
  go_ret
  refine ⟨_, rfl, ?_, below_trans BW B4⟩
  rw [E.out]
  exact RowV.mono r4 (Nat.le_of_lt LW)

set_option maxRecDepth 20000 in
set_option maxHeartbeats 1000000 in
theorem encodeOp_3 (o : OpV) (ok : o.Ok) (hm : fmask o.kind = some 3) (w : World) : Calls Try.prog 19 #[opV o] w (NewB w (opL o)) := by
  obtain ⟨i0, hi0, hz0, hz1, hz2⟩ := info_parts infoB
  obtain ⟨f0, f1, f2, f3, f4, f5, f6⟩ := o
  obtain ⟨k0, k1, k2, k3, k4, k5, k6⟩ := ok
  have E : Hid (opL ⟨f0, f1, f2, f3, f4, f5, f6⟩ = putI f0 ++ putI f1 ++ putI f2) := by
    show _ = _
    unfold opL; rw [hm]; simp [opM]
  have FO : Hid (∀ w, Calls Try.prog 46 #[.int .i64 f0] w fun e w' => e = .returned (.tuple #[.int .i64 3, .bool true]) ∧ w' = w) := fun w => by
    have := fieldsOf_at f0 w
    simp only at hm
    rw [hm] at this; exact this
  have P0 : Hid (∀ w, Calls Try.prog 37 #[.int .i64 f0] w (NewB w (putI f0))) := fun w => putNumber_at f0 k0 w
  have l0 : (putI f0).length ≤ 10 := putI_len f0 k0
  have P1 : Hid (∀ w, Calls Try.prog 37 #[.int .i64 f1] w (NewB w (putI f1))) := fun w => putNumber_at f1 k1 w
  have l1 : (putI f1).length ≤ 10 := putI_len f1 k1
  have P2 : Hid (∀ w, Calls Try.prog 47 #[.int .i64 f2] w (NewB w (putI f2))) := fun w => putInt_at f2 k2.1 k2.2 w
  have l2 : (putI f2).length ≤ 10 := putI_len f2 k2
  unfold opV
  clear hm k0 k1 k2 k3 k4 k5 k6
  simp only
  generalize putI f0 = q0 at *
  generalize putI f1 = q1 at *
  generalize putI f2 = q2 at *
  have BW := below_alloc w (.cells #[.int .i64 f0, .int .i64 f1, .int .i64 f2, .int .i64 f3, .int .i64 f4, .int .i64 f5, .string f6] 23)
  have LW : w.heap.size < (w.alloc (.cells #[.int .i64 f0, .int .i64 f1, .int .i64 f2, .int .i64 f3, .int .i64 f4, .int .i64 f5, .string f6] 23)).heap.size := by simp
  have CW0 : (w.alloc (.cells #[.int .i64 f0, .int .i64 f1, .int .i64 f2, .int .i64 f3, .int .i64 f4, .int .i64 f5, .string f6] 23)).cell? ⟨w.heap.size, 0, none⟩ = some (.int .i64 f0) := by simp
  have CW1 : (w.alloc (.cells #[.int .i64 f0, .int .i64 f1, .int .i64 f2, .int .i64 f3, .int .i64 f4, .int .i64 f5, .string f6] 23)).cell? ⟨w.heap.size, 1, none⟩ = some (.int .i64 f1) := by simp
  have CW2 : (w.alloc (.cells #[.int .i64 f0, .int .i64 f1, .int .i64 f2, .int .i64 f3, .int .i64 f4, .int .i64 f5, .string f6] 23)).cell? ⟨w.heap.size, 2, none⟩ = some (.int .i64 f2) := by simp
  have CW3 : (w.alloc (.cells #[.int .i64 f0, .int .i64 f1, .int .i64 f2, .int .i64 f3, .int .i64 f4, .int .i64 f5, .string f6] 23)).cell? ⟨w.heap.size, 3, none⟩ = some (.int .i64 f3) := by simp
  have CW4 : (w.alloc (.cells #[.int .i64 f0, .int .i64 f1, .int .i64 f2, .int .i64 f3, .int .i64 f4, .int .i64 f5, .string f6] 23)).cell? ⟨w.heap.size, 4, none⟩ = some (.int .i64 f4) := by simp
  have CW5 : (w.alloc (.cells #[.int .i64 f0, .int .i64 f1, .int .i64 f2, .int .i64 f3, .int .i64 f4, .int .i64 f5, .string f6] 23)).cell? ⟨w.heap.size, 5, none⟩ = some (.int .i64 f5) := by simp
  have CW6 : (w.alloc (.cells #[.int .i64 f0, .int .i64 f1, .int .i64 f2, .int .i64 f3, .int .i64 f4, .int .i64 f5, .string f6] 23)).cell? ⟨w.heap.size, 6, none⟩ = some (.string f6) := by simp
  go_enter Try.func19, Try.ntmps19
  go_wp2_with fail
  generalize w.alloc (.cells #[.int .i64 f0, .int .i64 f1, .int .i64 f2, .int .i64 f3, .int .i64 f4, .int .i64 f5, .string f6] 23) = W0 at *
  refine (FO.out _).mono ?_
  rintro e wx ⟨rfl, hw⟩; rw [hw]; clear hw wx
  go_wp2_with fail
  refine (P0.out _).mono ?_
  rintro e w1 ⟨v1, rfl, r1, B1⟩
  have cw1 : w1.cell? ⟨w.heap.size, 1, none⟩ = some (.int .i64 f1) := (B1.cell (p := ⟨w.heap.size, 1, none⟩) LW).trans CW1
  go_wp2_with fail
  refine (P1.out _).mono ?_
  rintro e x2 ⟨y2, rfl, s2, d2⟩
  have o2 := RowV.later r1 d2
  have q22 := RowV.rd s2
  have B22 := below_trans B1 d2
  have s22 := B22.size
  have k22 := len_max (a := q0) (b := q1) (by (try simp only [List.length_append]); omega)
  have n22 := one_bv q1
  clear r1 s2 d2 B1
  go_wp2_with (at_builtin; refine wpList_catV rfl (.tmp 20) (.tmp 23) 33 rfl 5 i0 (.int .u8 0) 1 underB hi0 hz0 hz1 hz2 rfl W0.heap.size _ _ _ _ n22 rfl o2 s22 rfl q22 k22.1 k22.2 ?_; intro v2 w2 t2 g2; have B2 : Below W0.heap.size W0 w2 := below_grown B22 o2 (Nat.le_refl _) s22 g2; have r2 := cat_row t2; have cw2 : w2.cell? ⟨w.heap.size, 2, none⟩ = some (.int .i64 f2) := (B2.cell (p := ⟨w.heap.size, 2, none⟩) LW).trans CW2; clear t2 g2 o2 q22 B22 s22 k22 n22)
  refine (P2.out _).mono ?_
  rintro e x3 ⟨y3, rfl, s3, d3⟩
  have o3 := RowV.later r2 d3
  have q23 := RowV.rd s3
  have B23 := below_trans B2 d3
  have s23 := B23.size
  have k23 := len_max (a := q0 ++ q1) (b := q2) (by (try simp only [List.length_append]); omega)
  have n23 := one_bv q2
  clear r2 s3 d3 B2
  go_wp2_with (at_builtin; refine wpList_catV rfl (.tmp 28) (.tmp 31) 33 rfl 5 i0 (.int .u8 0) 1 underB hi0 hz0 hz1 hz2 rfl W0.heap.size _ _ _ _ n23 rfl o3 s23 rfl q23 k23.1 k23.2 ?_; intro v3 w3 t3 g3; have B3 : Below W0.heap.size W0 w3 := below_grown B23 o3 (Nat.le_refl _) s23 g3; have r3 := cat_row t3; clear t3 g3 o3 q23 B23 s23 k23 n23)
  go_ret
  refine ⟨_, rfl, ?_, below_trans BW B3⟩
  rw [E.out]
  exact RowV.mono r3 (Nat.le_of_lt LW)

set_option maxRecDepth 20000 in
set_option maxHeartbeats 1000000 in
theorem encodeOp_1 (o : OpV) (ok : o.Ok) (hm : fmask o.kind = some 1) (w : World) : Calls Try.prog 19 #[opV o] w (NewB w (opL o)) := by
  obtain ⟨i0, hi0, hz0, hz1, hz2⟩ := info_parts infoB
  obtain ⟨f0, f1, f2, f3, f4, f5, f6⟩ := o
  obtain ⟨k0, k1, k2, k3, k4, k5, k6⟩ := ok
  have E : Hid (opL ⟨f0, f1, f2, f3, f4, f5, f6⟩ = putI f0 ++ putI f1) := by
    show _ = _
    unfold opL; rw [hm]; simp [opM]
  have FO : Hid (∀ w, Calls Try.prog 46 #[.int .i64 f0] w fun e w' => e = .returned (.tuple #[.int .i64 1, .bool true]) ∧ w' = w) := fun w => by
    have := fieldsOf_at f0 w
    simp only at hm
    rw [hm] at this; exact this
  have P0 : Hid (∀ w, Calls Try.prog 37 #[.int .i64 f0] w (NewB w (putI f0))) := fun w => putNumber_at f0 k0 w
  have l0 : (putI f0).length ≤ 10 := putI_len f0 k0
  have P1 : Hid (∀ w, Calls Try.prog 37 #[.int .i64 f1] w (NewB w (putI f1))) := fun w => putNumber_at f1 k1 w
  have l1 : (putI f1).length ≤ 10 := putI_len f1 k1
  unfold opV
  clear hm k0 k1 k2 k3 k4 k5 k6
  simp only
  generalize putI f0 = q0 at *
  generalize putI f1 = q1 at *
  have BW := below_alloc w (.cells #[.int .i64 f0, .int .i64 f1, .int .i64 f2, .int .i64 f3, .int .i64 f4, .int .i64 f5, .string f6] 23)
  have LW : w.heap.size < (w.alloc (.cells #[.int .i64 f0, .int .i64 f1, .int .i64 f2, .int .i64 f3, .int .i64 f4, .int .i64 f5, .string f6] 23)).heap.size := by simp
  have CW0 : (w.alloc (.cells #[.int .i64 f0, .int .i64 f1, .int .i64 f2, .int .i64 f3, .int .i64 f4, .int .i64 f5, .string f6] 23)).cell? ⟨w.heap.size, 0, none⟩ = some (.int .i64 f0) := by simp
  have CW1 : (w.alloc (.cells #[.int .i64 f0, .int .i64 f1, .int .i64 f2, .int .i64 f3, .int .i64 f4, .int .i64 f5, .string f6] 23)).cell? ⟨w.heap.size, 1, none⟩ = some (.int .i64 f1) := by simp
  have CW2 : (w.alloc (.cells #[.int .i64 f0, .int .i64 f1, .int .i64 f2, .int .i64 f3, .int .i64 f4, .int .i64 f5, .string f6] 23)).cell? ⟨w.heap.size, 2, none⟩ = some (.int .i64 f2) := by simp
  have CW3 : (w.alloc (.cells #[.int .i64 f0, .int .i64 f1, .int .i64 f2, .int .i64 f3, .int .i64 f4, .int .i64 f5, .string f6] 23)).cell? ⟨w.heap.size, 3, none⟩ = some (.int .i64 f3) := by simp
  have CW4 : (w.alloc (.cells #[.int .i64 f0, .int .i64 f1, .int .i64 f2, .int .i64 f3, .int .i64 f4, .int .i64 f5, .string f6] 23)).cell? ⟨w.heap.size, 4, none⟩ = some (.int .i64 f4) := by simp
  have CW5 : (w.alloc (.cells #[.int .i64 f0, .int .i64 f1, .int .i64 f2, .int .i64 f3, .int .i64 f4, .int .i64 f5, .string f6] 23)).cell? ⟨w.heap.size, 5, none⟩ = some (.int .i64 f5) := by simp
  have CW6 : (w.alloc (.cells #[.int .i64 f0, .int .i64 f1, .int .i64 f2, .int .i64 f3, .int .i64 f4, .int .i64 f5, .string f6] 23)).cell? ⟨w.heap.size, 6, none⟩ = some (.string f6) := by simp
  go_enter Try.func19, Try.ntmps19
  go_wp2_with fail
  generalize w.alloc (.cells #[.int .i64 f0, .int .i64 f1, .int .i64 f2, .int .i64 f3, .int .i64 f4, .int .i64 f5, .string f6] 23) = W0 at *
  refine (FO.out _).mono ?_
  rintro e wx ⟨rfl, hw⟩; rw [hw]; clear hw wx
  go_wp2_with fail
  refine (P0.out _).mono ?_
  rintro e w1 ⟨v1, rfl, r1, B1⟩
  have cw1 : w1.cell? ⟨w.heap.size, 1, none⟩ = some (.int .i64 f1) := (B1.cell (p := ⟨w.heap.size, 1, none⟩) LW).trans CW1
  go_wp2_with fail
  refine (P1.out _).mono ?_
  rintro e x2 ⟨y2, rfl, s2, d2⟩
  have o2 := RowV.later r1 d2
  have q22 := RowV.rd s2
  have B22 := below_trans B1 d2
  have s22 := B22.size
  have k22 := len_max (a := q0) (b := q1) (by (try simp only [List.length_append]); omega)
  have n22 := one_bv q1
  clear r1 s2 d2 B1
  go_wp2_with (at_builtin; refine wpList_catV rfl (.tmp 20) (.tmp 23) 33 rfl 5 i0 (.int .u8 0) 1 underB hi0 hz0 hz1 hz2 rfl W0.heap.size _ _ _ _ n22 rfl o2 s22 rfl q22 k22.1 k22.2 ?_; intro v2 w2 t2 g2; have B2 : Below W0.heap.size W0 w2 := below_grown B22 o2 (Nat.le_refl _) s22 g2; have r2 := cat_row t2; clear t2 g2 o2 q22 B22 s22 k22 n22)
  go_ret
  refine ⟨_, rfl, ?_, below_trans BW B2⟩
  rw [E.out]
  exact RowV.mono r2 (Nat.le_of_lt LW)

set_option maxRecDepth 20000 in
set_option maxHeartbeats 1000000 in
theorem encodeOp_19 (o : OpV) (ok : o.Ok) (hm : fmask o.kind = some 19) (w : World) : Calls Try.prog 19 #[opV o] w (NewB w (opL o)) := by
  obtain ⟨i0, hi0, hz0, hz1, hz2⟩ := info_parts infoB
  obtain ⟨f0, f1, f2, f3, f4, f5, f6⟩ := o
  obtain ⟨k0, k1, k2, k3, k4, k5, k6⟩ := ok
  have E : Hid (opL ⟨f0, f1, f2, f3, f4, f5, f6⟩ = putI f0 ++ putI f1 ++ putI f2 ++ putI f5) := by
    show _ = _
    unfold opL; rw [hm]; simp [opM]
  have FO : Hid (∀ w, Calls Try.prog 46 #[.int .i64 f0] w fun e w' => e = .returned (.tuple #[.int .i64 19, .bool true]) ∧ w' = w) := fun w => by
    have := fieldsOf_at f0 w
    simp only at hm
    rw [hm] at this; exact this
  have P0 : Hid (∀ w, Calls Try.prog 37 #[.int .i64 f0] w (NewB w (putI f0))) := fun w => putNumber_at f0 k0 w
  have l0 : (putI f0).length ≤ 10 := putI_len f0 k0
  have P1 : Hid (∀ w, Calls Try.prog 37 #[.int .i64 f1] w (NewB w (putI f1))) := fun w => putNumber_at f1 k1 w
  have l1 : (putI f1).length ≤ 10 := putI_len f1 k1
  have P2 : Hid (∀ w, Calls Try.prog 47 #[.int .i64 f2] w (NewB w (putI f2))) := fun w => putInt_at f2 k2.1 k2.2 w
  have l2 : (putI f2).length ≤ 10 := putI_len f2 k2
  have P5 : Hid (∀ w, Calls Try.prog 37 #[.int .i64 f5] w (NewB w (putI f5))) := fun w => putNumber_at f5 k5 w
  have l5 : (putI f5).length ≤ 10 := putI_len f5 k5
  unfold opV
  clear hm k0 k1 k2 k3 k4 k5 k6
  simp only
  generalize putI f0 = q0 at *
  generalize putI f1 = q1 at *
  generalize putI f2 = q2 at *
  generalize putI f5 = q5 at *
  have BW := below_alloc w (.cells #[.int .i64 f0, .int .i64 f1, .int .i64 f2, .int .i64 f3, .int .i64 f4, .int .i64 f5, .string f6] 23)
  have LW : w.heap.size < (w.alloc (.cells #[.int .i64 f0, .int .i64 f1, .int .i64 f2, .int .i64 f3, .int .i64 f4, .int .i64 f5, .string f6] 23)).heap.size := by simp
  have CW0 : (w.alloc (.cells #[.int .i64 f0, .int .i64 f1, .int .i64 f2, .int .i64 f3, .int .i64 f4, .int .i64 f5, .string f6] 23)).cell? ⟨w.heap.size, 0, none⟩ = some (.int .i64 f0) := by simp
  have CW1 : (w.alloc (.cells #[.int .i64 f0, .int .i64 f1, .int .i64 f2, .int .i64 f3, .int .i64 f4, .int .i64 f5, .string f6] 23)).cell? ⟨w.heap.size, 1, none⟩ = some (.int .i64 f1) := by simp
  have CW2 : (w.alloc (.cells #[.int .i64 f0, .int .i64 f1, .int .i64 f2, .int .i64 f3, .int .i64 f4, .int .i64 f5, .string f6] 23)).cell? ⟨w.heap.size, 2, none⟩ = some (.int .i64 f2) := by simp
  have CW3 : (w.alloc (.cells #[.int .i64 f0, .int .i64 f1, .int .i64 f2, .int .i64 f3, .int .i64 f4, .int .i64 f5, .string f6] 23)).cell? ⟨w.heap.size, 3, none⟩ = some (.int .i64 f3) := by simp
  have CW4 : (w.alloc (.cells #[.int .i64 f0, .int .i64 f1, .int .i64 f2, .int .i64 f3, .int .i64 f4, .int .i64 f5, .string f6] 23)).cell? ⟨w.heap.size, 4, none⟩ = some (.int .i64 f4) := by simp
  have CW5 : (w.alloc (.cells #[.int .i64 f0, .int .i64 f1, .int .i64 f2, .int .i64 f3, .int .i64 f4, .int .i64 f5, .string f6] 23)).cell? ⟨w.heap.size, 5, none⟩ = some (.int .i64 f5) := by simp
  have CW6 : (w.alloc (.cells #[.int .i64 f0, .int .i64 f1, .int .i64 f2, .int .i64 f3, .int .i64 f4, .int .i64 f5, .string f6] 23)).cell? ⟨w.heap.size, 6, none⟩ = some (.string f6) := by simp
  go_enter Try.func19, Try.ntmps19
  go_wp2_with fail
  generalize w.alloc (.cells #[.int .i64 f0, .int .i64 f1, .int .i64 f2, .int .i64 f3, .int .i64 f4, .int .i64 f5, .string f6] 23) = W0 at *
  refine (FO.out _).mono ?_
  rintro e wx ⟨rfl, hw⟩; rw [hw]; clear hw wx
  go_wp2_with fail
  refine (P0.out _).mono ?_
  rintro e w1 ⟨v1, rfl, r1, B1⟩
  have cw1 : w1.cell? ⟨w.heap.size, 1, none⟩ = some (.int .i64 f1) := (B1.cell (p := ⟨w.heap.size, 1, none⟩) LW).trans CW1
  go_wp2_with fail
  refine (P1.out _).mono ?_
  rintro e x2 ⟨y2, rfl, s2, d2⟩
  have o2 := RowV.later r1 d2
  have q22 := RowV.rd s2
  have B22 := below_trans B1 d2
  have s22 := B22.size
  have k22 := len_max (a := q0) (b := q1) (by (try simp only [List.length_append]); omega)
  have n22 := one_bv q1
  clear r1 s2 d2 B1
  go_wp2_with (at_builtin; refine wpList_catV rfl (.tmp 20) (.tmp 23) 33 rfl 5 i0 (.int .u8 0) 1 underB hi0 hz0 hz1 hz2 rfl W0.heap.size _ _ _ _ n22 rfl o2 s22 rfl q22 k22.1 k22.2 ?_; intro v2 w2 t2 g2; have B2 : Below W0.heap.size W0 w2 := below_grown B22 o2 (Nat.le_refl _) s22 g2; have r2 := cat_row t2; have cw2 : w2.cell? ⟨w.heap.size, 2, none⟩ = some (.int .i64 f2) := (B2.cell (p := ⟨w.heap.size, 2, none⟩) LW).trans CW2; clear t2 g2 o2 q22 B22 s22 k22 n22)
  refine (P2.out _).mono ?_
  rintro e x3 ⟨y3, rfl, s3, d3⟩
  have o3 := RowV.later r2 d3
  have q23 := RowV.rd s3
  have B23 := below_trans B2 d3
  have s23 := B23.size
  have k23 := len_max (a := q0 ++ q1) (b := q2) (by (try simp only [List.length_append]); omega)
  have n23 := one_bv q2
  clear r2 s3 d3 B2
  go_wp2_with (at_builtin; refine wpList_catV rfl (.tmp 28) (.tmp 31) 33 rfl 5 i0 (.int .u8 0) 1 underB hi0 hz0 hz1 hz2 rfl W0.heap.size _ _ _ _ n23 rfl o3 s23 rfl q23 k23.1 k23.2 ?_; intro v3 w3 t3 g3; have B3 : Below W0.heap.size W0 w3 := below_grown B23 o3 (Nat.le_refl _) s23 g3; have r3 := cat_row t3; have cw3 : w3.cell? ⟨w.heap.size, 5, none⟩ = some (.int .i64 f5) := (B3.cell (p := ⟨w.heap.size, 5, none⟩) LW).trans CW5; clear t3 g3 o3 q23 B23 s23 k23 n23)
  refine (P5.out _).mono ?_
  rintro e x4 ⟨y4, rfl, s4, d4⟩
  have o4 := RowV.later r3 d4
  have q24 := RowV.rd s4
  have B24 := below_trans B3 d4
  have s24 := B24.size
  have k24 := len_max (a := q0 ++ q1 ++ q2) (b := q5) (by (try simp only [List.length_append]); omega)
  have n24 := one_bv q5
  clear r3 s4 d4 B3
  go_wp2_with (at_builtin; refine wpList_catV rfl (.tmp 52) (.tmp 55) 33 rfl 5 i0 (.int .u8 0) 1 underB hi0 hz0 hz1 hz2 rfl W0.heap.size _ _ _ _ n24 rfl o4 s24 rfl q24 k24.1 k24.2 ?_; intro v4 w4 t4 g4; have B4 : Below W0.heap.size W0 w4 := below_grown B24 o4 (Nat.le_refl _) s24 g4; have r4 := cat_row t4; clear t4 g4 o4 q24 B24 s24 k24 n24)
  go_ret
  refine ⟨_, rfl, ?_, below_trans BW B4⟩
  rw [E.out]
  exact RowV.mono r4 (Nat.le_of_lt LW)

set_option maxRecDepth 20000 in
set_option maxHeartbeats 1000000 in
theorem encodeOp_13 (o : OpV) (ok : o.Ok) (hm : fmask o.kind = some 13) (w : World) : Calls Try.prog 19 #[opV o] w (NewB w (opL o)) := by
  obtain ⟨i0, hi0, hz0, hz1, hz2⟩ := info_parts infoB
  obtain ⟨f0, f1, f2, f3, f4, f5, f6⟩ := o
  obtain ⟨k0, k1, k2, k3, k4, k5, k6⟩ := ok
  have E : Hid (opL ⟨f0, f1, f2, f3, f4, f5, f6⟩ = putI f0 ++ putI f1 ++ putI f3 ++ putI f4) := by
    show _ = _
    unfold opL; rw [hm]; simp [opM]
  have FO : Hid (∀ w, Calls Try.prog 46 #[.int .i64 f0] w fun e w' => e = .returned (.tuple #[.int .i64 13, .bool true]) ∧ w' = w) := fun w => by
    have := fieldsOf_at f0 w
    simp only at hm
    rw [hm] at this; exact this
  have P0 : Hid (∀ w, Calls Try.prog 37 #[.int .i64 f0] w (NewB w (putI f0))) := fun w => putNumber_at f0 k0 w
  have l0 : (putI f0).length ≤ 10 := putI_len f0 k0
  have P1 : Hid (∀ w, Calls Try.prog 37 #[.int .i64 f1] w (NewB w (putI f1))) := fun w => putNumber_at f1 k1 w
  have l1 : (putI f1).length ≤ 10 := putI_len f1 k1
  have P3 : Hid (∀ w, Calls Try.prog 47 #[.int .i64 f3] w (NewB w (putI f3))) := fun w => putInt_at f3 k3.1 k3.2 w
  have l3 : (putI f3).length ≤ 10 := putI_len f3 k3
  have P4 : Hid (∀ w, Calls Try.prog 37 #[.int .i64 f4] w (NewB w (putI f4))) := fun w => putNumber_at f4 k4 w
  have l4 : (putI f4).length ≤ 10 := putI_len f4 k4
  unfold opV
  clear hm k0 k1 k2 k3 k4 k5 k6
  simp only
  generalize putI f0 = q0 at *
  generalize putI f1 = q1 at *
  generalize putI f3 = q3 at *
  generalize putI f4 = q4 at *
  have BW := below_alloc w (.cells #[.int .i64 f0, .int .i64 f1, .int .i64 f2, .int .i64 f3, .int .i64 f4, .int .i64 f5, .string f6] 23)
  have LW : w.heap.size < (w.alloc (.cells #[.int .i64 f0, .int .i64 f1, .int .i64 f2, .int .i64 f3, .int .i64 f4, .int .i64 f5, .string f6] 23)).heap.size := by simp
  have CW0 : (w.alloc (.cells #[.int .i64 f0, .int .i64 f1, .int .i64 f2, .int .i64 f3, .int .i64 f4, .int .i64 f5, .string f6] 23)).cell? ⟨w.heap.size, 0, none⟩ = some (.int .i64 f0) := by simp
  have CW1 : (w.alloc (.cells #[.int .i64 f0, .int .i64 f1, .int .i64 f2, .int .i64 f3, .int .i64 f4, .int .i64 f5, .string f6] 23)).cell? ⟨w.heap.size, 1, none⟩ = some (.int .i64 f1) := by simp
  have CW2 : (w.alloc (.cells #[.int .i64 f0, .int .i64 f1, .int .i64 f2, .int .i64 f3, .int .i64 f4, .int .i64 f5, .string f6] 23)).cell? ⟨w.heap.size, 2, none⟩ = some (.int .i64 f2) := by simp
  have CW3 : (w.alloc (.cells #[.int .i64 f0, .int .i64 f1, .int .i64 f2, .int .i64 f3, .int .i64 f4, .int .i64 f5, .string f6] 23)).cell? ⟨w.heap.size, 3, none⟩ = some (.int .i64 f3) := by simp
  have CW4 : (w.alloc (.cells #[.int .i64 f0, .int .i64 f1, .int .i64 f2, .int .i64 f3, .int .i64 f4, .int .i64 f5, .string f6] 23)).cell? ⟨w.heap.size, 4, none⟩ = some (.int .i64 f4) := by simp
  have CW5 : (w.alloc (.cells #[.int .i64 f0, .int .i64 f1, .int .i64 f2, .int .i64 f3, .int .i64 f4, .int .i64 f5, .string f6] 23)).cell? ⟨w.heap.size, 5, none⟩ = some (.int .i64 f5) := by simp
  have CW6 : (w.alloc (.cells #[.int .i64 f0, .int .i64 f1, .int .i64 f2, .int .i64 f3, .int .i64 f4, .int .i64 f5, .string f6] 23)).cell? ⟨w.heap.size, 6, none⟩ = some (.string f6) := by simp
  go_enter Try.func19, Try.ntmps19
  go_wp2_with fail
  generalize w.alloc (.cells #[.int .i64 f0, .int .i64 f1, .int .i64 f2, .int .i64 f3, .int .i64 f4, .int .i64 f5, .string f6] 23) = W0 at *
  refine (FO.out _).mono ?_
  rintro e wx ⟨rfl, hw⟩; rw [hw]; clear hw wx
  go_wp2_with fail
  refine (P0.out _).mono ?_
  rintro e w1 ⟨v1, rfl, r1, B1⟩
  have cw1 : w1.cell? ⟨w.heap.size, 1, none⟩ = some (.int .i64 f1) := (B1.cell (p := ⟨w.heap.size, 1, none⟩) LW).trans CW1
  go_wp2_with fail
  refine (P1.out _).mono ?_
  rintro e x2 ⟨y2, rfl, s2, d2⟩
  have o2 := RowV.later r1 d2
  have q22 := RowV.rd s2
  have B22 := below_trans B1 d2
  have s22 := B22.size
  have k22 := len_max (a := q0) (b := q1) (by (try simp only [List.length_append]); omega)
  have n22 := one_bv q1
  clear r1 s2 d2 B1
  go_wp2_with (at_builtin; refine wpList_catV rfl (.tmp 20) (.tmp 23) 33 rfl 5 i0 (.int .u8 0) 1 underB hi0 hz0 hz1 hz2 rfl W0.heap.size _ _ _ _ n22 rfl o2 s22 rfl q22 k22.1 k22.2 ?_; intro v2 w2 t2 g2; have B2 : Below W0.heap.size W0 w2 := below_grown B22 o2 (Nat.le_refl _) s22 g2; have r2 := cat_row t2; have cw2 : w2.cell? ⟨w.heap.size, 3, none⟩ = some (.int .i64 f3) := (B2.cell (p := ⟨w.heap.size, 3, none⟩) LW).trans CW3; clear t2 g2 o2 q22 B22 s22 k22 n22)
  refine (P3.out _).mono ?_
  rintro e x3 ⟨y3, rfl, s3, d3⟩
  have o3 := RowV.later r2 d3
  have q23 := RowV.rd s3
  have B23 := below_trans B2 d3
  have s23 := B23.size
  have k23 := len_max (a := q0 ++ q1) (b := q3) (by (try simp only [List.length_append]); omega)
  have n23 := one_bv q3
  clear r2 s3 d3 B2
  go_wp2_with (at_builtin; refine wpList_catV rfl (.tmp 36) (.tmp 39) 33 rfl 5 i0 (.int .u8 0) 1 underB hi0 hz0 hz1 hz2 rfl W0.heap.size _ _ _ _ n23 rfl o3 s23 rfl q23 k23.1 k23.2 ?_; intro v3 w3 t3 g3; have B3 : Below W0.heap.size W0 w3 := below_grown B23 o3 (Nat.le_refl _) s23 g3; have r3 := cat_row t3; have cw3 : w3.cell? ⟨w.heap.size, 4, none⟩ = some (.int .i64 f4) := (B3.cell (p := ⟨w.heap.size, 4, none⟩) LW).trans CW4; clear t3 g3 o3 q23 B23 s23 k23 n23)
  refine (P4.out _).mono ?_
  rintro e x4 ⟨y4, rfl, s4, d4⟩
  have o4 := RowV.later r3 d4
  have q24 := RowV.rd s4
  have B24 := below_trans B3 d4
  have s24 := B24.size
  have k24 := len_max (a := q0 ++ q1 ++ q3) (b := q4) (by (try simp only [List.length_append]); omega)
  have n24 := one_bv q4
  clear r3 s4 d4 B3
  go_wp2_with (at_builtin; refine wpList_catV rfl (.tmp 44) (.tmp 47) 33 rfl 5 i0 (.int .u8 0) 1 underB hi0 hz0 hz1 hz2 rfl W0.heap.size _ _ _ _ n24 rfl o4 s24 rfl q24 k24.1 k24.2 ?_; intro v4 w4 t4 g4; have B4 : Below W0.heap.size W0 w4 := below_grown B24 o4 (Nat.le_refl _) s24 g4; have r4 := cat_row t4; clear t4 g4 o4 q24 B24 s24 k24 n24)
  go_ret
  refine ⟨_, rfl, ?_, below_trans BW B4⟩
  rw [E.out]
  exact RowV.mono r4 (Nat.le_of_lt LW)

set_option maxRecDepth 20000 in
set_option maxHeartbeats 1000000 in
theorem encodeOp_16 (o : OpV) (ok : o.Ok) (hm : fmask o.kind = some 16) (w : World) : Calls Try.prog 19 #[opV o] w (NewB w (opL o)) := by
  obtain ⟨i0, hi0, hz0, hz1, hz2⟩ := info_parts infoB
  obtain ⟨f0, f1, f2, f3, f4, f5, f6⟩ := o
  obtain ⟨k0, k1, k2, k3, k4, k5, k6⟩ := ok
  have E : Hid (opL ⟨f0, f1, f2, f3, f4, f5, f6⟩ = putI f0 ++ putI f5) := by
    show _ = _
    unfold opL; rw [hm]; simp [opM]
  have FO : Hid (∀ w, Calls Try.prog 46 #[.int .i64 f0] w fun e w' => e = .returned (.tuple #[.int .i64 16, .bool true]) ∧ w' = w) := fun w => by
    have := fieldsOf_at f0 w
    simp only at hm
    rw [hm] at this; exact this
  have P0 : Hid (∀ w, Calls Try.prog 37 #[.int .i64 f0] w (NewB w (putI f0))) := fun w => putNumber_at f0 k0 w
  have l0 : (putI f0).length ≤ 10 := putI_len f0 k0
  have P5 : Hid (∀ w, Calls Try.prog 37 #[.int .i64 f5] w (NewB w (putI f5))) := fun w => putNumber_at f5 k5 w
  have l5 : (putI f5).length ≤ 10 := putI_len f5 k5
  unfold opV
  clear hm k0 k1 k2 k3 k4 k5 k6
  simp only
  generalize putI f0 = q0 at *
  generalize putI f5 = q5 at *
  have BW := below_alloc w (.cells #[.int .i64 f0, .int .i64 f1, .int .i64 f2, .int .i64 f3, .int .i64 f4, .int .i64 f5, .string f6] 23)
  have LW : w.heap.size < (w.alloc (.cells #[.int .i64 f0, .int .i64 f1, .int .i64 f2, .int .i64 f3, .int .i64 f4, .int .i64 f5, .string f6] 23)).heap.size := by simp
  have CW0 : (w.alloc (.cells #[.int .i64 f0, .int .i64 f1, .int .i64 f2, .int .i64 f3, .int .i64 f4, .int .i64 f5, .string f6] 23)).cell? ⟨w.heap.size, 0, none⟩ = some (.int .i64 f0) := by simp
  have CW1 : (w.alloc (.cells #[.int .i64 f0, .int .i64 f1, .int .i64 f2, .int .i64 f3, .int .i64 f4, .int .i64 f5, .string f6] 23)).cell? ⟨w.heap.size, 1, none⟩ = some (.int .i64 f1) := by simp
  have CW2 : (w.alloc (.cells #[.int .i64 f0, .int .i64 f1, .int .i64 f2, .int .i64 f3, .int .i64 f4, .int .i64 f5, .string f6] 23)).cell? ⟨w.heap.size, 2, none⟩ = some (.int .i64 f2) := by simp
  have CW3 : (w.alloc (.cells #[.int .i64 f0, .int .i64 f1, .int .i64 f2, .int .i64 f3, .int .i64 f4, .int .i64 f5, .string f6] 23)).cell? ⟨w.heap.size, 3, none⟩ = some (.int .i64 f3) := by simp
  have CW4 : (w.alloc (.cells #[.int .i64 f0, .int .i64 f1, .int .i64 f2, .int .i64 f3, .int .i64 f4, .int .i64 f5, .string f6] 23)).cell? ⟨w.heap.size, 4, none⟩ = some (.int .i64 f4) := by simp
  have CW5 : (w.alloc (.cells #[.int .i64 f0, .int .i64 f1, .int .i64 f2, .int .i64 f3, .int .i64 f4, .int .i64 f5, .string f6] 23)).cell? ⟨w.heap.size, 5, none⟩ = some (.int .i64 f5) := by simp
  have CW6 : (w.alloc (.cells #[.int .i64 f0, .int .i64 f1, .int .i64 f2, .int .i64 f3, .int .i64 f4, .int .i64 f5, .string f6] 23)).cell? ⟨w.heap.size, 6, none⟩ = some (.string f6) := by simp
  go_enter Try.func19, Try.ntmps19
  go_wp2_with fail
  generalize w.alloc (.cells #[.int .i64 f0, .int .i64 f1, .int .i64 f2, .int .i64 f3, .int .i64 f4, .int .i64 f5, .string f6] 23) = W0 at *
  refine (FO.out _).mono ?_
  rintro e wx ⟨rfl, hw⟩; rw [hw]; clear hw wx
  go_wp2_with fail
  refine (P0.out _).mono ?_
  rintro e w1 ⟨v1, rfl, r1, B1⟩
  have cw1 : w1.cell? ⟨w.heap.size, 5, none⟩ = some (.int .i64 f5) := (B1.cell (p := ⟨w.heap.size, 5, none⟩) LW).trans CW5
  go_wp2_with fail
  refine (P5.out _).mono ?_
  rintro e x2 ⟨y2, rfl, s2, d2⟩
  have o2 := RowV.later r1 d2
  have q22 := RowV.rd s2
  have B22 := below_trans B1 d2
  have s22 := B22.size
  have k22 := len_max (a := q0) (b := q5) (by (try simp only [List.length_append]); omega)
  have n22 := one_bv q5
  clear r1 s2 d2 B1
  go_wp2_with (at_builtin; refine wpList_catV rfl (.tmp 52) (.tmp 55) 33 rfl 5 i0 (.int .u8 0) 1 underB hi0 hz0 hz1 hz2 rfl W0.heap.size _ _ _ _ n22 rfl o2 s22 rfl q22 k22.1 k22.2 ?_; intro v2 w2 t2 g2; have B2 : Below W0.heap.size W0 w2 := below_grown B22 o2 (Nat.le_refl _) s22 g2; have r2 := cat_row t2; clear t2 g2 o2 q22 B22 s22 k22 n22)
  go_ret
  refine ⟨_, rfl, ?_, below_trans BW B2⟩
  rw [E.out]
  exact RowV.mono r2 (Nat.le_of_lt LW)

set_option maxRecDepth 20000 in
set_option maxHeartbeats 1000000 in
theorem encodeOp_32 (o : OpV) (ok : o.Ok) (hm : fmask o.kind = some 32) (w : World) : Calls Try.prog 19 #[opV o] w (NewB w (opL o)) := by
  obtain ⟨i0, hi0, hz0, hz1, hz2⟩ := info_parts infoB
  obtain ⟨f0, f1, f2, f3, f4, f5, f6⟩ := o
  obtain ⟨k0, k1, k2, k3, k4, k5, k6⟩ := ok
  have E : Hid (opL ⟨f0, f1, f2, f3, f4, f5, f6⟩ = putI f0 ++ putT (sB f6)) := by
    show _ = _
    unfold opL; rw [hm]; simp [opM]
  have FO : Hid (∀ w, Calls Try.prog 46 #[.int .i64 f0] w fun e w' => e = .returned (.tuple #[.int .i64 32, .bool true]) ∧ w' = w) := fun w => by
    have := fieldsOf_at f0 w
    simp only at hm
    rw [hm] at this; exact this
  have P0 : Hid (∀ w, Calls Try.prog 37 #[.int .i64 f0] w (NewB w (putI f0))) := fun w => putNumber_at f0 k0 w
  have l0 : (putI f0).length ≤ 10 := putI_len f0 k0
  have P6 : Hid (∀ w, Calls Try.prog 48 #[.string f6] w (NewB w (putT (sB f6)))) := fun w => putText_at f6 w (by simp only at k6; omega)
  have l6 : (putT (sB f6)).length ≤ 10000000000 := by
    simp only at k6
    have := put_len10 (sB f6).length (by rw [sB_len]; omega); have := sB_len f6; unfold putT; rw [List.length_append]; omega
  unfold opV
  clear hm k0 k1 k2 k3 k4 k5 k6
  simp only
  generalize putI f0 = q0 at *
  generalize putT (sB f6) = q6 at *
  have BW := below_alloc w (.cells #[.int .i64 f0, .int .i64 f1, .int .i64 f2, .int .i64 f3, .int .i64 f4, .int .i64 f5, .string f6] 23)
  have LW : w.heap.size < (w.alloc (.cells #[.int .i64 f0, .int .i64 f1, .int .i64 f2, .int .i64 f3, .int .i64 f4, .int .i64 f5, .string f6] 23)).heap.size := by simp
  have CW0 : (w.alloc (.cells #[.int .i64 f0, .int .i64 f1, .int .i64 f2, .int .i64 f3, .int .i64 f4, .int .i64 f5, .string f6] 23)).cell? ⟨w.heap.size, 0, none⟩ = some (.int .i64 f0) := by simp
  have CW1 : (w.alloc (.cells #[.int .i64 f0, .int .i64 f1, .int .i64 f2, .int .i64 f3, .int .i64 f4, .int .i64 f5, .string f6] 23)).cell? ⟨w.heap.size, 1, none⟩ = some (.int .i64 f1) := by simp
  have CW2 : (w.alloc (.cells #[.int .i64 f0, .int .i64 f1, .int .i64 f2, .int .i64 f3, .int .i64 f4, .int .i64 f5, .string f6] 23)).cell? ⟨w.heap.size, 2, none⟩ = some (.int .i64 f2) := by simp
  have CW3 : (w.alloc (.cells #[.int .i64 f0, .int .i64 f1, .int .i64 f2, .int .i64 f3, .int .i64 f4, .int .i64 f5, .string f6] 23)).cell? ⟨w.heap.size, 3, none⟩ = some (.int .i64 f3) := by simp
  have CW4 : (w.alloc (.cells #[.int .i64 f0, .int .i64 f1, .int .i64 f2, .int .i64 f3, .int .i64 f4, .int .i64 f5, .string f6] 23)).cell? ⟨w.heap.size, 4, none⟩ = some (.int .i64 f4) := by simp
  have CW5 : (w.alloc (.cells #[.int .i64 f0, .int .i64 f1, .int .i64 f2, .int .i64 f3, .int .i64 f4, .int .i64 f5, .string f6] 23)).cell? ⟨w.heap.size, 5, none⟩ = some (.int .i64 f5) := by simp
  have CW6 : (w.alloc (.cells #[.int .i64 f0, .int .i64 f1, .int .i64 f2, .int .i64 f3, .int .i64 f4, .int .i64 f5, .string f6] 23)).cell? ⟨w.heap.size, 6, none⟩ = some (.string f6) := by simp
  go_enter Try.func19, Try.ntmps19
  go_wp2_with fail
  generalize w.alloc (.cells #[.int .i64 f0, .int .i64 f1, .int .i64 f2, .int .i64 f3, .int .i64 f4, .int .i64 f5, .string f6] 23) = W0 at *
  refine (FO.out _).mono ?_
  rintro e wx ⟨rfl, hw⟩; rw [hw]; clear hw wx
  go_wp2_with fail
  refine (P0.out _).mono ?_
  rintro e w1 ⟨v1, rfl, r1, B1⟩
  have cw1 : w1.cell? ⟨w.heap.size, 6, none⟩ = some (.string f6) := (B1.cell (p := ⟨w.heap.size, 6, none⟩) LW).trans CW6
  go_wp2_with fail
  refine (P6.out _).mono ?_
  rintro e x2 ⟨y2, rfl, s2, d2⟩
  have o2 := RowV.later r1 d2
  have q22 := RowV.rd s2
  have B22 := below_trans B1 d2
  have s22 := B22.size
  have k22 := len_max (a := q0) (b := q6) (by (try simp only [List.length_append]); omega)
  have n22 := one_bv q6
  clear r1 s2 d2 B1
  go_wp2_with (at_builtin; refine wpList_catV rfl (.tmp 60) (.tmp 63) 33 rfl 5 i0 (.int .u8 0) 1 underB hi0 hz0 hz1 hz2 rfl W0.heap.size _ _ _ _ n22 rfl o2 s22 rfl q22 k22.1 k22.2 ?_; intro v2 w2 t2 g2; have B2 : Below W0.heap.size W0 w2 := below_grown B22 o2 (Nat.le_refl _) s22 g2; have r2 := cat_row t2; clear t2 g2 o2 q22 B22 s22 k22 n22)
  go_ret
  refine ⟨_, rfl, ?_, below_trans BW B2⟩
  rw [E.out]
  exact RowV.mono r2 (Nat.le_of_lt LW)

set_option maxRecDepth 20000 in
set_option maxHeartbeats 1000000 in
theorem encodeOp_24 (o : OpV) (ok : o.Ok) (hm : fmask o.kind = some 24) (w : World) : Calls Try.prog 19 #[opV o] w (NewB w (opL o)) := by
  obtain ⟨i0, hi0, hz0, hz1, hz2⟩ := info_parts infoB
  obtain ⟨f0, f1, f2, f3, f4, f5, f6⟩ := o
  obtain ⟨k0, k1, k2, k3, k4, k5, k6⟩ := ok
  have E : Hid (opL ⟨f0, f1, f2, f3, f4, f5, f6⟩ = putI f0 ++ putI f4 ++ putI f5) := by
    show _ = _
    unfold opL; rw [hm]; simp [opM]
  have FO : Hid (∀ w, Calls Try.prog 46 #[.int .i64 f0] w fun e w' => e = .returned (.tuple #[.int .i64 24, .bool true]) ∧ w' = w) := fun w => by
    have := fieldsOf_at f0 w
    simp only at hm
    rw [hm] at this; exact this
  have P0 : Hid (∀ w, Calls Try.prog 37 #[.int .i64 f0] w (NewB w (putI f0))) := fun w => putNumber_at f0 k0 w
  have l0 : (putI f0).length ≤ 10 := putI_len f0 k0
  have P4 : Hid (∀ w, Calls Try.prog 37 #[.int .i64 f4] w (NewB w (putI f4))) := fun w => putNumber_at f4 k4 w
  have l4 : (putI f4).length ≤ 10 := putI_len f4 k4
  have P5 : Hid (∀ w, Calls Try.prog 37 #[.int .i64 f5] w (NewB w (putI f5))) := fun w => putNumber_at f5 k5 w
  have l5 : (putI f5).length ≤ 10 := putI_len f5 k5
  unfold opV
  clear hm k0 k1 k2 k3 k4 k5 k6
  simp only
  generalize putI f0 = q0 at *
  generalize putI f4 = q4 at *
  generalize putI f5 = q5 at *
  have BW := below_alloc w (.cells #[.int .i64 f0, .int .i64 f1, .int .i64 f2, .int .i64 f3, .int .i64 f4, .int .i64 f5, .string f6] 23)
  have LW : w.heap.size < (w.alloc (.cells #[.int .i64 f0, .int .i64 f1, .int .i64 f2, .int .i64 f3, .int .i64 f4, .int .i64 f5, .string f6] 23)).heap.size := by simp
  have CW0 : (w.alloc (.cells #[.int .i64 f0, .int .i64 f1, .int .i64 f2, .int .i64 f3, .int .i64 f4, .int .i64 f5, .string f6] 23)).cell? ⟨w.heap.size, 0, none⟩ = some (.int .i64 f0) := by simp
  have CW1 : (w.alloc (.cells #[.int .i64 f0, .int .i64 f1, .int .i64 f2, .int .i64 f3, .int .i64 f4, .int .i64 f5, .string f6] 23)).cell? ⟨w.heap.size, 1, none⟩ = some (.int .i64 f1) := by simp
  have CW2 : (w.alloc (.cells #[.int .i64 f0, .int .i64 f1, .int .i64 f2, .int .i64 f3, .int .i64 f4, .int .i64 f5, .string f6] 23)).cell? ⟨w.heap.size, 2, none⟩ = some (.int .i64 f2) := by simp
  have CW3 : (w.alloc (.cells #[.int .i64 f0, .int .i64 f1, .int .i64 f2, .int .i64 f3, .int .i64 f4, .int .i64 f5, .string f6] 23)).cell? ⟨w.heap.size, 3, none⟩ = some (.int .i64 f3) := by simp
  have CW4 : (w.alloc (.cells #[.int .i64 f0, .int .i64 f1, .int .i64 f2, .int .i64 f3, .int .i64 f4, .int .i64 f5, .string f6] 23)).cell? ⟨w.heap.size, 4, none⟩ = some (.int .i64 f4) := by simp
  have CW5 : (w.alloc (.cells #[.int .i64 f0, .int .i64 f1, .int .i64 f2, .int .i64 f3, .int .i64 f4, .int .i64 f5, .string f6] 23)).cell? ⟨w.heap.size, 5, none⟩ = some (.int .i64 f5) := by simp
  have CW6 : (w.alloc (.cells #[.int .i64 f0, .int .i64 f1, .int .i64 f2, .int .i64 f3, .int .i64 f4, .int .i64 f5, .string f6] 23)).cell? ⟨w.heap.size, 6, none⟩ = some (.string f6) := by simp
  go_enter Try.func19, Try.ntmps19
  go_wp2_with fail
  generalize w.alloc (.cells #[.int .i64 f0, .int .i64 f1, .int .i64 f2, .int .i64 f3, .int .i64 f4, .int .i64 f5, .string f6] 23) = W0 at *
  refine (FO.out _).mono ?_
  rintro e wx ⟨rfl, hw⟩; rw [hw]; clear hw wx
  go_wp2_with fail
  refine (P0.out _).mono ?_
  rintro e w1 ⟨v1, rfl, r1, B1⟩
  have cw1 : w1.cell? ⟨w.heap.size, 4, none⟩ = some (.int .i64 f4) := (B1.cell (p := ⟨w.heap.size, 4, none⟩) LW).trans CW4
  go_wp2_with fail
  refine (P4.out _).mono ?_
  rintro e x2 ⟨y2, rfl, s2, d2⟩
  have o2 := RowV.later r1 d2
  have q22 := RowV.rd s2
  have B22 := below_trans B1 d2
  have s22 := B22.size
  have k22 := len_max (a := q0) (b := q4) (by (try simp only [List.length_append]); omega)
  have n22 := one_bv q4
  clear r1 s2 d2 B1
  go_wp2_with (at_builtin; refine wpList_catV rfl (.tmp 44) (.tmp 47) 33 rfl 5 i0 (.int .u8 0) 1 underB hi0 hz0 hz1 hz2 rfl W0.heap.size _ _ _ _ n22 rfl o2 s22 rfl q22 k22.1 k22.2 ?_; intro v2 w2 t2 g2; have B2 : Below W0.heap.size W0 w2 := below_grown B22 o2 (Nat.le_refl _) s22 g2; have r2 := cat_row t2; have cw2 : w2.cell? ⟨w.heap.size, 5, none⟩ = some (.int .i64 f5) := (B2.cell (p := ⟨w.heap.size, 5, none⟩) LW).trans CW5; clear t2 g2 o2 q22 B22 s22 k22 n22)
  refine (P5.out _).mono ?_
  rintro e x3 ⟨y3, rfl, s3, d3⟩
  have o3 := RowV.later r2 d3
  have q23 := RowV.rd s3
  have B23 := below_trans B2 d3
  have s23 := B23.size
  have k23 := len_max (a := q0 ++ q4) (b := q5) (by (try simp only [List.length_append]); omega)
  have n23 := one_bv q5
  clear r2 s3 d3 B2
  go_wp2_with (at_builtin; refine wpList_catV rfl (.tmp 52) (.tmp 55) 33 rfl 5 i0 (.int .u8 0) 1 underB hi0 hz0 hz1 hz2 rfl W0.heap.size _ _ _ _ n23 rfl o3 s23 rfl q23 k23.1 k23.2 ?_; intro v3 w3 t3 g3; have B3 : Below W0.heap.size W0 w3 := below_grown B23 o3 (Nat.le_refl _) s23 g3; have r3 := cat_row t3; clear t3 g3 o3 q23 B23 s23 k23 n23)
  go_ret
  refine ⟨_, rfl, ?_, below_trans BW B3⟩
  rw [E.out]
  exact RowV.mono r3 (Nat.le_of_lt LW)

set_option maxRecDepth 20000 in
set_option maxHeartbeats 1000000 in
theorem encodeOp_0 (o : OpV) (ok : o.Ok) (hm : fmask o.kind = some 0) (w : World) : Calls Try.prog 19 #[opV o] w (NewB w (opL o)) := by
  obtain ⟨i0, hi0, hz0, hz1, hz2⟩ := info_parts infoB
  obtain ⟨f0, f1, f2, f3, f4, f5, f6⟩ := o
  obtain ⟨k0, k1, k2, k3, k4, k5, k6⟩ := ok
  have E : Hid (opL ⟨f0, f1, f2, f3, f4, f5, f6⟩ = putI f0) := by
    show _ = _
    unfold opL; rw [hm]; simp [opM]
  have FO : Hid (∀ w, Calls Try.prog 46 #[.int .i64 f0] w fun e w' => e = .returned (.tuple #[.int .i64 0, .bool true]) ∧ w' = w) := fun w => by
    have := fieldsOf_at f0 w
    simp only at hm
    rw [hm] at this; exact this
  have P0 : Hid (∀ w, Calls Try.prog 37 #[.int .i64 f0] w (NewB w (putI f0))) := fun w => putNumber_at f0 k0 w
  have l0 : (putI f0).length ≤ 10 := putI_len f0 k0
  unfold opV
  clear hm k0 k1 k2 k3 k4 k5 k6
  simp only
  generalize putI f0 = q0 at *
  have BW := below_alloc w (.cells #[.int .i64 f0, .int .i64 f1, .int .i64 f2, .int .i64 f3, .int .i64 f4, .int .i64 f5, .string f6] 23)
  have LW : w.heap.size < (w.alloc (.cells #[.int .i64 f0, .int .i64 f1, .int .i64 f2, .int .i64 f3, .int .i64 f4, .int .i64 f5, .string f6] 23)).heap.size := by simp
  have CW0 : (w.alloc (.cells #[.int .i64 f0, .int .i64 f1, .int .i64 f2, .int .i64 f3, .int .i64 f4, .int .i64 f5, .string f6] 23)).cell? ⟨w.heap.size, 0, none⟩ = some (.int .i64 f0) := by simp
  have CW1 : (w.alloc (.cells #[.int .i64 f0, .int .i64 f1, .int .i64 f2, .int .i64 f3, .int .i64 f4, .int .i64 f5, .string f6] 23)).cell? ⟨w.heap.size, 1, none⟩ = some (.int .i64 f1) := by simp
  have CW2 : (w.alloc (.cells #[.int .i64 f0, .int .i64 f1, .int .i64 f2, .int .i64 f3, .int .i64 f4, .int .i64 f5, .string f6] 23)).cell? ⟨w.heap.size, 2, none⟩ = some (.int .i64 f2) := by simp
  have CW3 : (w.alloc (.cells #[.int .i64 f0, .int .i64 f1, .int .i64 f2, .int .i64 f3, .int .i64 f4, .int .i64 f5, .string f6] 23)).cell? ⟨w.heap.size, 3, none⟩ = some (.int .i64 f3) := by simp
  have CW4 : (w.alloc (.cells #[.int .i64 f0, .int .i64 f1, .int .i64 f2, .int .i64 f3, .int .i64 f4, .int .i64 f5, .string f6] 23)).cell? ⟨w.heap.size, 4, none⟩ = some (.int .i64 f4) := by simp
  have CW5 : (w.alloc (.cells #[.int .i64 f0, .int .i64 f1, .int .i64 f2, .int .i64 f3, .int .i64 f4, .int .i64 f5, .string f6] 23)).cell? ⟨w.heap.size, 5, none⟩ = some (.int .i64 f5) := by simp
  have CW6 : (w.alloc (.cells #[.int .i64 f0, .int .i64 f1, .int .i64 f2, .int .i64 f3, .int .i64 f4, .int .i64 f5, .string f6] 23)).cell? ⟨w.heap.size, 6, none⟩ = some (.string f6) := by simp
  go_enter Try.func19, Try.ntmps19
  go_wp2_with fail
  generalize w.alloc (.cells #[.int .i64 f0, .int .i64 f1, .int .i64 f2, .int .i64 f3, .int .i64 f4, .int .i64 f5, .string f6] 23) = W0 at *
  refine (FO.out _).mono ?_
  rintro e wx ⟨rfl, hw⟩; rw [hw]; clear hw wx
  go_wp2_with fail
  refine (P0.out _).mono ?_
  rintro e w1 ⟨v1, rfl, r1, B1⟩
  go_wp2_with fail
  go_ret
  refine ⟨_, rfl, ?_, below_trans BW B1⟩
  rw [E.out]
  exact RowV.mono r1 (Nat.le_of_lt LW)

set_option maxRecDepth 20000 in
theorem encodeOp_none (o : OpV) (hm : fmask o.kind = none) (w : World) : Calls Try.prog 19 #[opV o] w (NewB w (opL o)) := by
  obtain ⟨f0, f1, f2, f3, f4, f5, f6⟩ := o
  have E : Hid (opL ⟨f0, f1, f2, f3, f4, f5, f6⟩ = []) := by
    show _ = _
    unfold opL; rw [hm]
  have FO : Hid (∀ w, Calls Try.prog 46 #[.int .i64 f0] w fun e w' => e = .returned (.tuple #[.int .i64 0, .bool false]) ∧ w' = w) := fun w => by
    have := fieldsOf_at f0 w
    simp only at hm
    rw [hm] at this; exact this
  unfold opV
  clear hm
  simp only
  go_enter Try.func19, Try.ntmps19
  go_wp2_with fail
  refine (FO.out _).mono ?_
  rintro e wx ⟨rfl, hw⟩; rw [hw]; clear hw wx
  go_wp2_with fail
  go_ret
  refine ⟨_, rfl, ?_, below_alloc _ _⟩
  rw [E.out]
  exact RowV.nil _ _ _

theorem fmask_cases (k : Int) : fmask k = none ∨ fmask k = some 31 ∨ fmask k = some 11 ∨ fmask k = some 3 ∨ fmask k = some 1 ∨ fmask k = some 19 ∨ fmask k = some 13 ∨ fmask k = some 16 ∨ fmask k = some 32 ∨ fmask k = some 24 ∨ fmask k = some 0 := by
  by_cases c1 : k = 1
  · subst c1; simp [fmask]
  by_cases c2 : k = 2
  · subst c2; simp [fmask]
  by_cases c3 : k = 3
  · subst c3; simp [fmask]
  by_cases c4 : k = 4
  · subst c4; simp [fmask]
  by_cases c5 : k = 5
  · subst c5; simp [fmask]
  by_cases c6 : k = 6
  · subst c6; simp [fmask]
  by_cases c7 : k = 7
  · subst c7; simp [fmask]
  by_cases c8 : k = 8
  · subst c8; simp [fmask]
  by_cases c9 : k = 9
  · subst c9; simp [fmask]
  by_cases c10 : k = 10
  · subst c10; simp [fmask]
  by_cases c11 : k = 11
  · subst c11; simp [fmask]
  by_cases c12 : k = 12
  · subst c12; simp [fmask]
  by_cases c13 : k = 13
  · subst c13; simp [fmask]
  by_cases c14 : k = 14
  · subst c14; simp [fmask]
  by_cases c15 : k = 15
  · subst c15; simp [fmask]
  by_cases c16 : k = 16
  · subst c16; simp [fmask]
  by_cases c17 : k = 17
  · subst c17; simp [fmask]
  by_cases c18 : k = 18
  · subst c18; simp [fmask]
  by_cases c19 : k = 19
  · subst c19; simp [fmask]
  by_cases c20 : k = 20
  · subst c20; simp [fmask]
  by_cases c21 : k = 21
  · subst c21; simp [fmask]
  left; unfold fmask; simp only [if_neg c1, if_neg c2, if_neg c3, if_neg c4, if_neg c5, if_neg c6, if_neg c7, if_neg c8, if_neg c9, if_neg c10, if_neg c11, if_neg c12, if_neg c13, if_neg c14, if_neg c15, if_neg c16, if_neg c17, if_neg c18, if_neg c19, if_neg c20, if_neg c21]

theorem encodeOp_at (o : OpV) (ok : o.Ok) (w : World) : Calls Try.prog 19 #[opV o] w (NewB w (opL o)) := by
  rcases fmask_cases o.kind with h | h | h | h | h | h | h | h | h | h | h
  · exact encodeOp_none o h w
  · exact encodeOp_31 o ok h w
  · exact encodeOp_11 o ok h w
  · exact encodeOp_3 o ok h w
  · exact encodeOp_1 o ok h w
  · exact encodeOp_19 o ok h w
  · exact encodeOp_13 o ok h w
  · exact encodeOp_16 o ok h w
  · exact encodeOp_32 o ok h w
  · exact encodeOp_24 o ok h w
  · exact encodeOp_0 o ok h w
end Go.Proofs.Ytdbjjeaflfoppaa
