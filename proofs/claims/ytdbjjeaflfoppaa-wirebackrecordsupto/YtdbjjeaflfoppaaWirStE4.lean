/-
  Ours: a loan and a portfolio, told (gen_wst4.py: THE SEAT's OWN NUMBERS).
-/
import Derived.Test.YtdbjjeaflfoppaaWirStE3
namespace Go.Proofs.Ytdbjjeaflfoppaa
open Go.RowKit WsM

theorem Blk.range {G : Nat} {ty : TypeId} {cs : List Value} {w : World} (h : Blk G ty cs w) (o n : Nat) : w.rangeAt G o ((cs.drop o).take n) := fun j v hv => by
  rw [List.getElem?_take] at hv
  split at hv
  · rw [List.getElem?_drop] at hv; exact h.cell _ _ hv
  · cases hv
/-- Numbers that lie in the midst of a block, told. -/
theorem putIntsR_at (xs : List Int) (F o n : Nat) (w : World) (hx : I64s xs) (hn : xs.length = n) (hl : n ≤ 1000) (lt : F < w.heap.size) (hb : w.rangeAt F o (xs.map (Value.int .i64))) : Calls Try.prog 39 #[.slice (some ⟨F, o, none⟩) n n] w (NewB w (putFs xs)) := by
  subst hn
  exact putInts_at xs _ _ hx (by omega) ⟨_, _, by rw [List.length_map], by rw [List.length_map]; exact Nat.le_refl _, (fun h => by cases h), fun i hi => ⟨_, o, rfl, lt, hb i _ (List.getElem?_eq_getElem hi)⟩⟩
theorem sizeTm (t0 t1 t2 t3 t4 t5 : Int) : (Try.prog.info? 55).map (·.size) = some ([.int .i64 t0, .int .i64 t1, .int .i64 t2, .int .i64 t3, .int .i64 t4, .int .i64 t5] : List Value).length := by show _ = some 6; kernel_rfl
theorem sizeCs (s : Int) (z : Bool) (k0 k1 k2 k3 k4 k5 k6 k7 k8 k9 k10 k11 k12 : Int) : (Try.prog.info? 61).map (·.size) = some ([.int .i64 s, .bool z, .int .i64 k0, .int .i64 k1, .int .i64 k2, .int .i64 k3, .int .i64 k4, .int .i64 k5, .int .i64 k6, .int .i64 k7, .int .i64 k8, .int .i64 k9, .int .i64 k10, .int .i64 k11, .int .i64 k12] : List Value).length := by show _ = some 15; kernel_rfl
theorem sizePa (l0 l1 l2 l3 l4 : Int) : (Try.prog.info? 63).map (·.size) = some ([.int .i64 l0, .int .i64 l1, .int .i64 l2, .int .i64 l3, .int .i64 l4] : List Value).length := by show _ = some 5; kernel_rfl
/-- A loan's 46 cells. -/
abbrev lnC (id t0 t1 t2 t3 t4 t5 : Int) (pa : Option Addr) (pn pc : Nat) (b0 b1 b2 b3 b4 b5 b6 b7 b8 b9 b10 b11 s : Int) (z : Bool) (k0 k1 k2 k3 k4 k5 k6 k7 k8 k9 k10 k11 k12 d0 d1 d2 l0 l1 l2 l3 l4 : Int) (y : Bool) (e0 e1 : Int) : List Value := [.int .i64 id, .int .i64 t0, .int .i64 t1, .int .i64 t2, .int .i64 t3, .int .i64 t4, .int .i64 t5, .slice pa pn pc, .int .i64 b0, .int .i64 b1, .int .i64 b2, .int .i64 b3, .int .i64 b4, .int .i64 b5, .int .i64 b6, .int .i64 b7, .int .i64 b8, .int .i64 b9, .int .i64 b10, .int .i64 b11, .int .i64 s, .bool z, .int .i64 k0, .int .i64 k1, .int .i64 k2, .int .i64 k3, .int .i64 k4, .int .i64 k5, .int .i64 k6, .int .i64 k7, .int .i64 k8, .int .i64 k9, .int .i64 k10, .int .i64 k11, .int .i64 k12, .int .i64 d0, .int .i64 d1, .int .i64 d2, .int .i64 l0, .int .i64 l1, .int .i64 l2, .int .i64 l3, .int .i64 l4, .bool y, .int .i64 e0, .int .i64 e1]
set_option maxRecDepth 40000 in
set_option maxHeartbeats 4000000 in
theorem encLoanL_at (id : Int) (t0 t1 t2 t3 t4 t5 : Int) (pa : Option Addr) (pn pc : Nat) (b0 b1 b2 b3 b4 b5 b6 b7 b8 b9 b10 b11 : Int) (s : Int) (z : Bool) (k0 k1 k2 k3 k4 k5 k6 k7 k8 k9 k10 k11 k12 : Int) (d0 d1 d2 : Int) (l0 l1 l2 l3 l4 : Int) (y : Bool) (e0 e1 : Int) (PB : List Nat) (w : World) (hid : I64s [id]) (ht : I64s [t0, t1, t2, t3, t4, t5]) (hp : ∀ W, Below w.heap.size w W → Calls Try.prog 56 #[.slice pa pn pc, .func (.func 57) #[] #[]] W (NewB W PB)) (hPB : PB.length ≤ 900000000000) (hb : I64s [b0, b1, b2, b3, b4, b5, b6, b7, b8, b9, b10, b11]) (hs : I64s [s]) (hk : I64s [k0, k1, k2, k3, k4, k5, k6, k7, k8, k9, k10, k11, k12]) (hd : I64s [d0, d1, d2]) (hl : I64s [l0, l1, l2, l3, l4]) (he : I64s [e0, e1]) : Calls Try.prog 23 #[.agg (lnC id t0 t1 t2 t3 t4 t5 pa pn pc b0 b1 b2 b3 b4 b5 b6 b7 b8 b9 b10 b11 s z k0 k1 k2 k3 k4 k5 k6 k7 k8 k9 k10 k11 k12 d0 d1 d2 l0 l1 l2 l3 l4 y e0 e1).toArray] w (NewB w (List.flatten [putI id, putFs [t0, t1, t2, t3, t4, t5], PB, putFs [b0, b1, b2, b3, b4, b5, b6, b7, b8, b9, b10, b11], List.flatten [putI s, putB z, putFs [k0, k1, k2, k3, k4, k5, k6, k7, k8, k9, k10, k11, k12]], putFs [d0, d1, d2], putFs [l0, l1, l2, l3, l4], putB y, putFs [e0, e1]])) := by
  have C0 : Hid (∀ W, Calls Try.prog 37 #[.int .i64 id] W (NewB W (putI id))) := fun W => putNumber_at id (hid id (by simp)) W
  have C1 : Hid (∀ W, Calls Try.prog 55 #[.agg #[.int .i64 t0, .int .i64 t1, .int .i64 t2, .int .i64 t3, .int .i64 t4, .int .i64 t5]] W (NewB W (putFs [t0, t1, t2, t3, t4, t5]))) := fun W => putTerms_at t0 t1 t2 t3 t4 t5 ht W
  have C2 : Hid (∀ W, Below w.heap.size w W → Calls Try.prog 56 #[.slice pa pn pc, .func (.func 57) #[] #[]] W (NewB W PB)) := hp
  have C3 : Hid (∀ W, Blk w.heap.size 65 (lnC id t0 t1 t2 t3 t4 t5 pa pn pc b0 b1 b2 b3 b4 b5 b6 b7 b8 b9 b10 b11 s z k0 k1 k2 k3 k4 k5 k6 k7 k8 k9 k10 k11 k12 d0 d1 d2 l0 l1 l2 l3 l4 y e0 e1) W → Calls Try.prog 39 #[.slice (some ⟨w.heap.size, 8, none⟩) 12 12] W (NewB W (putFs [b0, b1, b2, b3, b4, b5, b6, b7, b8, b9, b10, b11]))) := fun W h => putIntsR_at [b0, b1, b2, b3, b4, b5, b6, b7, b8, b9, b10, b11] _ 8 12 W hb rfl (by decide) h.lt (h.range 8 12)
  have C4 : Hid (∀ W, Calls Try.prog 58 #[.agg #[.int .i64 s, .bool z, .int .i64 k0, .int .i64 k1, .int .i64 k2, .int .i64 k3, .int .i64 k4, .int .i64 k5, .int .i64 k6, .int .i64 k7, .int .i64 k8, .int .i64 k9, .int .i64 k10, .int .i64 k11, .int .i64 k12]] W (NewB W (List.flatten [putI s, putB z, putFs [k0, k1, k2, k3, k4, k5, k6, k7, k8, k9, k10, k11, k12]]))) := fun W => putCase_at s z k0 k1 k2 k3 k4 k5 k6 k7 k8 k9 k10 k11 k12 W hs hk
  have C5 : Hid (∀ W F, Blk F 2 [.int .i64 d0, .int .i64 d1, .int .i64 d2] W → Calls Try.prog 39 #[.slice (some ⟨F, 0, none⟩) 3 3] W (NewB W (putFs [d0, d1, d2]))) := fun W F h => putIntsB_at [d0, d1, d2] F 3 W hd rfl (by decide) h
  have C6 : Hid (∀ W, Calls Try.prog 59 #[.agg #[.int .i64 l0, .int .i64 l1, .int .i64 l2, .int .i64 l3, .int .i64 l4]] W (NewB W (putFs [l0, l1, l2, l3, l4]))) := fun W => putParts_at l0 l1 l2 l3 l4 hl W
  have C7 : Hid (∀ W, Calls Try.prog 60 #[.bool y] W (NewB W (putB y))) := fun W => putBool_at y W
  have C8 : Hid (∀ W F, Blk F 2 [.int .i64 e0, .int .i64 e1] W → Calls Try.prog 39 #[.slice (some ⟨F, 0, none⟩) 2 2] W (NewB W (putFs [e0, e1]))) := fun W F h => putIntsB_at [e0, e1] F 2 W he rfl (by decide) h
  have L0 := putI_len id (hid id (by simp))
  have L1 := putFs_le (n := 6) ht rfl
  have L2 := hPB
  have L3 := putFs_le (n := 12) hb rfl
  have L4 : (List.flatten [putI s, putB z, putFs [k0, k1, k2, k3, k4, k5, k6, k7, k8, k9, k10, k11, k12]]).length ≤ 200 := by
    have h1 := putI_len s (hs s (by simp))
    have h2 := putB_len z
    have h3 := putFs_le (n := 13) hk rfl
    simp only [List.flatten_cons, List.flatten_nil, List.length_append, List.length_nil]; omega
  have L5 := putFs_le (n := 3) hd rfl
  have L6 := putFs_le (n := 5) hl rfl
  have L7 := putB_len y
  have L8 := putFs_le (n := 2) he rfl
  have huT := Try.underlying55
  have hiT := sizeTm t0 t1 t2 t3 t4 t5
  have huC := Try.underlying61
  have hiC := sizeCs s z k0 k1 k2 k3 k4 k5 k6 k7 k8 k9 k10 k11 k12
  have huP := Try.underlying63
  have hiP := sizePa l0 l1 l2 l3 l4
  clear hid ht hp hb hs hk hd hl he hPB
  obtain ⟨r0, hr0⟩ : ∃ r, r = putI id := ⟨_, rfl⟩
  obtain ⟨r1, hr1⟩ : ∃ r, r = putFs [t0, t1, t2, t3, t4, t5] := ⟨_, rfl⟩
  obtain ⟨r2, hr2⟩ : ∃ r, r = PB := ⟨_, rfl⟩
  obtain ⟨r3, hr3⟩ : ∃ r, r = putFs [b0, b1, b2, b3, b4, b5, b6, b7, b8, b9, b10, b11] := ⟨_, rfl⟩
  obtain ⟨r4, hr4⟩ : ∃ r, r = List.flatten [putI s, putB z, putFs [k0, k1, k2, k3, k4, k5, k6, k7, k8, k9, k10, k11, k12]] := ⟨_, rfl⟩
  obtain ⟨r5, hr5⟩ : ∃ r, r = putFs [d0, d1, d2] := ⟨_, rfl⟩
  obtain ⟨r6, hr6⟩ : ∃ r, r = putFs [l0, l1, l2, l3, l4] := ⟨_, rfl⟩
  obtain ⟨r7, hr7⟩ : ∃ r, r = putB y := ⟨_, rfl⟩
  obtain ⟨r8, hr8⟩ : ∃ r, r = putFs [e0, e1] := ⟨_, rfl⟩
  rw [← hr0, ← hr1, ← hr2, ← hr3, ← hr4, ← hr5, ← hr6, ← hr7, ← hr8]
  rw [← hr0] at C0 L0
  rw [← hr1] at C1 L1
  rw [← hr2] at C2 L2
  rw [← hr3] at C3 L3
  rw [← hr4] at C4 L4
  rw [← hr5] at C5 L5
  rw [← hr6] at C6 L6
  rw [← hr7] at C7 L7
  rw [← hr8] at C8 L8
  have CN : Hid (∀ (W : World) (sa0 : Option Addr) (sn0 sc0 : Nat) (sa1 : Option Addr) (sn1 sc1 : Nat) (sa2 : Option Addr) (sn2 sc2 : Nat) (sa3 : Option Addr) (sn3 sc3 : Nat) (sa4 : Option Addr) (sn4 sc4 : Nat) (sa5 : Option Addr) (sn5 sc5 : Nat) (sa6 : Option Addr) (sn6 sc6 : Nat) (sa7 : Option Addr) (sn7 sc7 : Nat) (sa8 : Option Addr) (sn8 sc8 : Nat), RdB W (.slice sa0 sn0 sc0) r0 → RdB W (.slice sa1 sn1 sc1) r1 → RdB W (.slice sa2 sn2 sc2) r2 → RdB W (.slice sa3 sn3 sc3) r3 → RdB W (.slice sa4 sn4 sc4) r4 → RdB W (.slice sa5 sn5 sc5) r5 → RdB W (.slice sa6 sn6 sc6) r6 → RdB W (.slice sa7 sn7 sc7) r7 → RdB W (.slice sa8 sn8 sc8) r8 → Calls Try.prog 34 #[.slice (some ⟨W.heap.size, 0, none⟩) 9 9] (W.alloc (.cells #[.slice sa0 sn0 sc0, .slice sa1 sn1 sc1, .slice sa2 sn2 sc2, .slice sa3 sn3 sc3, .slice sa4 sn4 sc4, .slice sa5 sn5 sc5, .slice sa6 sn6 sc6, .slice sa7 sn7 sc7, .slice sa8 sn8 sc8] 33)) (NewB W (List.flatten [r0, r1, r2, r3, r4, r5, r6, r7, r8]))) := by
    intro W sa0 sn0 sc0 sa1 sn1 sc1 sa2 sn2 sc2 sa3 sn3 sc3 sa4 sn4 sc4 sa5 sn5 sc5 sa6 sn6 sc6 sa7 sn7 sc7 sa8 sn8 sc8 h0 h1 h2 h3 h4 h5 h6 h7 h8
    refine concatN_at [.slice sa0 sn0 sc0, .slice sa1 sn1 sc1, .slice sa2 sn2 sc2, .slice sa3 sn3 sc3, .slice sa4 sn4 sc4, .slice sa5 sn5 sc5, .slice sa6 sn6 sc6, .slice sa7 sn7 sc7, .slice sa8 sn8 sc8] [r0, r1, r2, r3, r4, r5, r6, r7, r8] W 9 rfl rfl (by simp) (fun i hi => ?_) (by simp only [lenS, List.flatten_cons, List.flatten_nil, List.length_append, List.length_nil]; omega)
    match i, hi with
    | 0, _ => exact h0
    | 1, _ => exact h1
    | 2, _ => exact h2
    | 3, _ => exact h3
    | 4, _ => exact h4
    | 5, _ => exact h5
    | 6, _ => exact h6
    | 7, _ => exact h7
    | 8, _ => exact h8
  clear hr0 hr1 hr2 hr3 hr4 hr5 hr6 hr7 hr8 L0 L1 L2 L3 L4 L5 L6 L7 L8
  obtain ⟨RR, hRR⟩ : ∃ r, r = List.flatten [r0, r1, r2, r3, r4, r5, r6, r7, r8] := ⟨_, rfl⟩
  rw [← hRR] at CN ⊢
  clear hRR
  have BL0 : Hid (Blk w.heap.size 65 (lnC id t0 t1 t2 t3 t4 t5 pa pn pc b0 b1 b2 b3 b4 b5 b6 b7 b8 b9 b10 b11 s z k0 k1 k2 k3 k4 k5 k6 k7 k8 k9 k10 k11 k12 d0 d1 d2 l0 l1 l2 l3 l4 y e0 e1) (w.alloc (.cells (lnC id t0 t1 t2 t3 t4 t5 pa pn pc b0 b1 b2 b3 b4 b5 b6 b7 b8 b9 b10 b11 s z k0 k1 k2 k3 k4 k5 k6 k7 k8 k9 k10 k11 k12 d0 d1 d2 l0 l1 l2 l3 l4 y e0 e1).toArray 65))) := Blk.new _ _ _
  have BW0 : Hid (Below w.heap.size w (w.alloc (.cells (lnC id t0 t1 t2 t3 t4 t5 pa pn pc b0 b1 b2 b3 b4 b5 b6 b7 b8 b9 b10 b11 s z k0 k1 k2 k3 k4 k5 k6 k7 k8 k9 k10 k11 k12 d0 d1 d2 l0 l1 l2 l3 l4 y e0 e1).toArray 65))) := below_alloc _ _
  go_enter Try.func23, Try.ntmps23
  go_upto_region 1 with fail
  refine wp_region_held_drew (S := fun w' => Blk (w.heap.size) 65 ((lnC id t0 t1 t2 t3 t4 t5 pa pn pc b0 b1 b2 b3 b4 b5 b6 b7 b8 b9 b10 b11 s z k0 k1 k2 k3 k4 k5 k6 k7 k8 k9 k10 k11 k12 d0 d1 d2 l0 l1 l2 l3 l4 y e0 e1)) w') (by kernel_rfl) (BL0.out.drewN 1) (fun hH => ?_)
  refine wpAnyH_take (i := 0) (oi := { dst := some 3, op := Op.fieldAddr 65 (Operand.tmp 1) 0, type := 0, pos := "encode.go:59", after := #[], guard := none }) (v := .pointer (some ⟨w.heap.size, 0, none⟩)) rfl (by kernel_rfl) (by kernel_rfl) (by kernel_rfl) (fun _ _ _ h => h) (Or.inl ⟨by rfl, fun w' h => by go_simp⟩) hH ?_
  try simp only [Act.put, List.setIfInBounds_toArray, List.set_cons_zero, List.set_cons_succ]
  refine wpAnyH_take (i := 1) (oi := { dst := some 4, op := Op.load 3 (Operand.tmp 3), type := 3, pos := "encode.go:59", after := #[{ on := 0, ground := Ground.data }], guard := none }) (v := .int .i64 id) rfl (by kernel_rfl) (by kernel_rfl) (by kernel_rfl) (fun _ _ _ h => h) (Or.inl ⟨by rfl, fun w' h => by have q : w'.cell? ⟨w.heap.size, 0, none⟩ = some (.int .i64 id) := Blk.cell h 0 _ rfl; go_simp⟩) hH ?_
  try simp only [Act.put, List.setIfInBounds_toArray, List.set_cons_zero, List.set_cons_succ]
  refine wpAnyH_take (i := 3) (oi := { dst := some 6, op := Op.fieldAddr 65 (Operand.tmp 1) 1, type := 0, pos := "encode.go:59", after := #[], guard := none }) (v := .pointer (some ⟨w.heap.size, 1, none⟩)) rfl (by kernel_rfl) (by kernel_rfl) (by kernel_rfl) (fun _ _ _ h => h) (Or.inl ⟨by rfl, fun w' h => by go_simp⟩) hH ?_
  try simp only [Act.put, List.setIfInBounds_toArray, List.set_cons_zero, List.set_cons_succ]
  refine wpAnyH_take (i := 4) (oi := { dst := some 7, op := Op.load 55 (Operand.tmp 6), type := 55, pos := "encode.go:59", after := #[{ on := 3, ground := Ground.data }], guard := none }) (v := .agg ([.int .i64 t0, .int .i64 t1, .int .i64 t2, .int .i64 t3, .int .i64 t4, .int .i64 t5]).toArray) rfl (by kernel_rfl) (by kernel_rfl) (by kernel_rfl) (fun _ _ _ h => h) (yieldsIf_load_mid (by rfl) _ _ rfl w.heap.size 1 rfl ([.int .i64 t0, .int .i64 t1, .int .i64 t2, .int .i64 t3, .int .i64 t4, .int .i64 t5]) _ (fun w' h => Blk.range h 1 6) huT rfl hiT) hH ?_
  try simp only [Act.put, List.setIfInBounds_toArray, List.set_cons_zero, List.set_cons_succ]
  refine wpAnyH_take (i := 6) (oi := { dst := some 9, op := Op.fieldAddr 65 (Operand.tmp 1) 2, type := 0, pos := "encode.go:59", after := #[], guard := none }) (v := .pointer (some ⟨w.heap.size, 7, none⟩)) rfl (by kernel_rfl) (by kernel_rfl) (by kernel_rfl) (fun _ _ _ h => h) (Or.inl ⟨by rfl, fun w' h => by go_simp⟩) hH ?_
  try simp only [Act.put, List.setIfInBounds_toArray, List.set_cons_zero, List.set_cons_succ]
  refine wpAnyH_take (i := 7) (oi := { dst := some 10, op := Op.load 56 (Operand.tmp 9), type := 56, pos := "encode.go:59", after := #[{ on := 6, ground := Ground.data }], guard := none }) (v := .slice pa pn pc) rfl (by kernel_rfl) (by kernel_rfl) (by kernel_rfl) (fun _ _ _ h => h) (Or.inl ⟨by rfl, fun w' h => by have q : w'.cell? ⟨w.heap.size, 7, none⟩ = some (.slice pa pn pc) := Blk.cell h 7 _ rfl; go_simp⟩) hH ?_
  try simp only [Act.put, List.setIfInBounds_toArray, List.set_cons_zero, List.set_cons_succ]
  refine wpAnyH_take (i := 9) (oi := { dst := some 12, op := Op.fieldAddr 65 (Operand.tmp 1) 3, type := 0, pos := "encode.go:59", after := #[], guard := none }) (v := .pointer (some ⟨w.heap.size, 8, none⟩)) rfl (by kernel_rfl) (by kernel_rfl) (by kernel_rfl) (fun _ _ _ h => h) (Or.inl ⟨by rfl, fun w' h => by go_simp⟩) hH ?_
  try simp only [Act.put, List.setIfInBounds_toArray, List.set_cons_zero, List.set_cons_succ]
  refine wpAnyH_take (i := 10) (oi := { dst := some 13, op := Op.fieldAddr 59 (Operand.tmp 12) 0, type := 0, pos := "encode.go:59", after := #[{ on := 9, ground := Ground.data }], guard := none }) (v := .pointer (some ⟨w.heap.size, 8, none⟩)) rfl (by kernel_rfl) (by kernel_rfl) (by kernel_rfl) (fun _ _ _ h => h) (Or.inl ⟨by rfl, fun w' h => by go_simp⟩) hH ?_
  try simp only [Act.put, List.setIfInBounds_toArray, List.set_cons_zero, List.set_cons_succ]
  refine wpAnyH_take (i := 11) (oi := { dst := some 14, op := Op.slice 57 (Operand.tmp 13) none none none, type := 110, pos := "encode.go:59", after := #[{ on := 10, ground := Ground.data }], guard := none }) (v := .slice (some ⟨w.heap.size, 8, none⟩) 12 12) rfl (by kernel_rfl) (by kernel_rfl) (by kernel_rfl) (fun _ _ _ h => h) (Or.inl ⟨by rfl, fun w' h => by go_simp⟩) hH ?_
  try simp only [Act.put, List.setIfInBounds_toArray, List.set_cons_zero, List.set_cons_succ]
  refine wpAnyH_take (i := 13) (oi := { dst := some 16, op := Op.fieldAddr 65 (Operand.tmp 1) 4, type := 0, pos := "encode.go:59", after := #[], guard := none }) (v := .pointer (some ⟨w.heap.size, 20, none⟩)) rfl (by kernel_rfl) (by kernel_rfl) (by kernel_rfl) (fun _ _ _ h => h) (Or.inl ⟨by rfl, fun w' h => by go_simp⟩) hH ?_
  try simp only [Act.put, List.setIfInBounds_toArray, List.set_cons_zero, List.set_cons_succ]
  refine wpAnyH_take (i := 14) (oi := { dst := some 17, op := Op.load 61 (Operand.tmp 16), type := 61, pos := "encode.go:59", after := #[{ on := 13, ground := Ground.data }], guard := none }) (v := .agg ([.int .i64 s, .bool z, .int .i64 k0, .int .i64 k1, .int .i64 k2, .int .i64 k3, .int .i64 k4, .int .i64 k5, .int .i64 k6, .int .i64 k7, .int .i64 k8, .int .i64 k9, .int .i64 k10, .int .i64 k11, .int .i64 k12]).toArray) rfl (by kernel_rfl) (by kernel_rfl) (by kernel_rfl) (fun _ _ _ h => h) (yieldsIf_load_mid (by rfl) _ _ rfl w.heap.size 20 rfl ([.int .i64 s, .bool z, .int .i64 k0, .int .i64 k1, .int .i64 k2, .int .i64 k3, .int .i64 k4, .int .i64 k5, .int .i64 k6, .int .i64 k7, .int .i64 k8, .int .i64 k9, .int .i64 k10, .int .i64 k11, .int .i64 k12]) _ (fun w' h => Blk.range h 20 15) huC rfl hiC) hH ?_
  try simp only [Act.put, List.setIfInBounds_toArray, List.set_cons_zero, List.set_cons_succ]
  refine wpAnyH_take (i := 16) (oi := { dst := some 19, op := Op.fieldAddr 65 (Operand.tmp 1) 5, type := 0, pos := "encode.go:59", after := #[], guard := none }) (v := .pointer (some ⟨w.heap.size, 35, none⟩)) rfl (by kernel_rfl) (by kernel_rfl) (by kernel_rfl) (fun _ _ _ h => h) (Or.inl ⟨by rfl, fun w' h => by go_simp⟩) hH ?_
  try simp only [Act.put, List.setIfInBounds_toArray, List.set_cons_zero, List.set_cons_succ]
  refine wpAnyH_take (i := 17) (oi := { dst := some 20, op := Op.load 3 (Operand.tmp 19), type := 3, pos := "encode.go:59", after := #[{ on := 16, ground := Ground.data }], guard := none }) (v := .int .i64 d0) rfl (by kernel_rfl) (by kernel_rfl) (by kernel_rfl) (fun _ _ _ h => h) (Or.inl ⟨by rfl, fun w' h => by have q : w'.cell? ⟨w.heap.size, 35, none⟩ = some (.int .i64 d0) := Blk.cell h 35 _ rfl; go_simp⟩) hH ?_
  try simp only [Act.put, List.setIfInBounds_toArray, List.set_cons_zero, List.set_cons_succ]
  refine wpAnyH_take (i := 18) (oi := { dst := some 21, op := Op.fieldAddr 65 (Operand.tmp 1) 6, type := 0, pos := "encode.go:59", after := #[], guard := none }) (v := .pointer (some ⟨w.heap.size, 36, none⟩)) rfl (by kernel_rfl) (by kernel_rfl) (by kernel_rfl) (fun _ _ _ h => h) (Or.inl ⟨by rfl, fun w' h => by go_simp⟩) hH ?_
  try simp only [Act.put, List.setIfInBounds_toArray, List.set_cons_zero, List.set_cons_succ]
  refine wpAnyH_take (i := 19) (oi := { dst := some 22, op := Op.load 2 (Operand.tmp 21), type := 2, pos := "encode.go:59", after := #[{ on := 18, ground := Ground.data }], guard := none }) (v := .int .i64 d1) rfl (by kernel_rfl) (by kernel_rfl) (by kernel_rfl) (fun _ _ _ h => h) (Or.inl ⟨by rfl, fun w' h => by have q : w'.cell? ⟨w.heap.size, 36, none⟩ = some (.int .i64 d1) := Blk.cell h 36 _ rfl; go_simp⟩) hH ?_
  try simp only [Act.put, List.setIfInBounds_toArray, List.set_cons_zero, List.set_cons_succ]
  refine wpAnyH_take (i := 20) (oi := { dst := some 23, op := Op.fieldAddr 65 (Operand.tmp 1) 7, type := 0, pos := "encode.go:59", after := #[], guard := none }) (v := .pointer (some ⟨w.heap.size, 37, none⟩)) rfl (by kernel_rfl) (by kernel_rfl) (by kernel_rfl) (fun _ _ _ h => h) (Or.inl ⟨by rfl, fun w' h => by go_simp⟩) hH ?_
  try simp only [Act.put, List.setIfInBounds_toArray, List.set_cons_zero, List.set_cons_succ]
  refine wpAnyH_take (i := 21) (oi := { dst := some 24, op := Op.load 2 (Operand.tmp 23), type := 2, pos := "encode.go:59", after := #[{ on := 20, ground := Ground.data }], guard := none }) (v := .int .i64 d2) rfl (by kernel_rfl) (by kernel_rfl) (by kernel_rfl) (fun _ _ _ h => h) (Or.inl ⟨by rfl, fun w' h => by have q : w'.cell? ⟨w.heap.size, 37, none⟩ = some (.int .i64 d2) := Blk.cell h 37 _ rfl; go_simp⟩) hH ?_
  try simp only [Act.put, List.setIfInBounds_toArray, List.set_cons_zero, List.set_cons_succ]
  refine wpAnyH_take (i := 24) (oi := { dst := some 27, op := Op.fieldAddr 65 (Operand.tmp 1) 8, type := 0, pos := "encode.go:59", after := #[], guard := none }) (v := .pointer (some ⟨w.heap.size, 38, none⟩)) rfl (by kernel_rfl) (by kernel_rfl) (by kernel_rfl) (fun _ _ _ h => h) (Or.inl ⟨by rfl, fun w' h => by go_simp⟩) hH ?_
  try simp only [Act.put, List.setIfInBounds_toArray, List.set_cons_zero, List.set_cons_succ]
  refine wpAnyH_take (i := 25) (oi := { dst := some 28, op := Op.load 63 (Operand.tmp 27), type := 63, pos := "encode.go:59", after := #[{ on := 24, ground := Ground.data }], guard := none }) (v := .agg ([.int .i64 l0, .int .i64 l1, .int .i64 l2, .int .i64 l3, .int .i64 l4]).toArray) rfl (by kernel_rfl) (by kernel_rfl) (by kernel_rfl) (fun _ _ _ h => h) (yieldsIf_load_mid (by rfl) _ _ rfl w.heap.size 38 rfl ([.int .i64 l0, .int .i64 l1, .int .i64 l2, .int .i64 l3, .int .i64 l4]) _ (fun w' h => Blk.range h 38 5) huP rfl hiP) hH ?_
  try simp only [Act.put, List.setIfInBounds_toArray, List.set_cons_zero, List.set_cons_succ]
  refine wpAnyH_take (i := 27) (oi := { dst := some 30, op := Op.fieldAddr 65 (Operand.tmp 1) 9, type := 0, pos := "encode.go:59", after := #[], guard := none }) (v := .pointer (some ⟨w.heap.size, 43, none⟩)) rfl (by kernel_rfl) (by kernel_rfl) (by kernel_rfl) (fun _ _ _ h => h) (Or.inl ⟨by rfl, fun w' h => by go_simp⟩) hH ?_
  try simp only [Act.put, List.setIfInBounds_toArray, List.set_cons_zero, List.set_cons_succ]
  refine wpAnyH_take (i := 28) (oi := { dst := some 31, op := Op.load 4 (Operand.tmp 30), type := 4, pos := "encode.go:59", after := #[{ on := 27, ground := Ground.data }], guard := none }) (v := .bool y) rfl (by kernel_rfl) (by kernel_rfl) (by kernel_rfl) (fun _ _ _ h => h) (Or.inl ⟨by rfl, fun w' h => by have q : w'.cell? ⟨w.heap.size, 43, none⟩ = some (.bool y) := Blk.cell h 43 _ rfl; go_simp⟩) hH ?_
  try simp only [Act.put, List.setIfInBounds_toArray, List.set_cons_zero, List.set_cons_succ]
  refine wpAnyH_take (i := 30) (oi := { dst := some 33, op := Op.fieldAddr 65 (Operand.tmp 1) 10, type := 0, pos := "encode.go:59", after := #[], guard := none }) (v := .pointer (some ⟨w.heap.size, 44, none⟩)) rfl (by kernel_rfl) (by kernel_rfl) (by kernel_rfl) (fun _ _ _ h => h) (Or.inl ⟨by rfl, fun w' h => by go_simp⟩) hH ?_
  try simp only [Act.put, List.setIfInBounds_toArray, List.set_cons_zero, List.set_cons_succ]
  refine wpAnyH_take (i := 31) (oi := { dst := some 34, op := Op.load 2 (Operand.tmp 33), type := 2, pos := "encode.go:59", after := #[{ on := 30, ground := Ground.data }], guard := none }) (v := .int .i64 e0) rfl (by kernel_rfl) (by kernel_rfl) (by kernel_rfl) (fun _ _ _ h => h) (Or.inl ⟨by rfl, fun w' h => by have q : w'.cell? ⟨w.heap.size, 44, none⟩ = some (.int .i64 e0) := Blk.cell h 44 _ rfl; go_simp⟩) hH ?_
  try simp only [Act.put, List.setIfInBounds_toArray, List.set_cons_zero, List.set_cons_succ]
  refine wpAnyH_take (i := 32) (oi := { dst := some 35, op := Op.fieldAddr 65 (Operand.tmp 1) 11, type := 0, pos := "encode.go:59", after := #[], guard := none }) (v := .pointer (some ⟨w.heap.size, 45, none⟩)) rfl (by kernel_rfl) (by kernel_rfl) (by kernel_rfl) (fun _ _ _ h => h) (Or.inl ⟨by rfl, fun w' h => by go_simp⟩) hH ?_
  try simp only [Act.put, List.setIfInBounds_toArray, List.set_cons_zero, List.set_cons_succ]
  refine wpAnyH_take (i := 33) (oi := { dst := some 36, op := Op.load 3 (Operand.tmp 35), type := 3, pos := "encode.go:59", after := #[{ on := 32, ground := Ground.data }], guard := none }) (v := .int .i64 e1) rfl (by kernel_rfl) (by kernel_rfl) (by kernel_rfl) (fun _ _ _ h => h) (Or.inl ⟨by rfl, fun w' h => by have q : w'.cell? ⟨w.heap.size, 45, none⟩ = some (.int .i64 e1) := Blk.cell h 45 _ rfl; go_simp⟩) hH ?_
  try simp only [Act.put, List.setIfInBounds_toArray, List.set_cons_zero, List.set_cons_succ]
  clear hH
  refine anyH_name fun G hG => ?_
  have Q9_01 : ∀ (W : World) (sa0 : Option Addr) (sn0 sc0 : Nat) (sa1 : Option Addr) (sn1 sc1 : Nat) (sa2 : Option Addr) (sn2 sc2 : Nat) (sa3 : Option Addr) (sn3 sc3 : Nat) (sa4 : Option Addr) (sn4 sc4 : Nat) (sa5 : Option Addr) (sn5 sc5 : Nat) (sa6 : Option Addr) (sn6 sc6 : Nat) (sa7 : Option Addr) (sn7 sc7 : Nat) (sa8 : Option Addr) (sn8 sc8 : Nat) (F0 : Nat) (F1 : Nat), Hid (Blk (w.heap.size) 65 ((lnC id t0 t1 t2 t3 t4 t5 pa pn pc b0 b1 b2 b3 b4 b5 b6 b7 b8 b9 b10 b11 s z k0 k1 k2 k3 k4 k5 k6 k7 k8 k9 k10 k11 k12 d0 d1 d2 l0 l1 l2 l3 l4 y e0 e1)) W) → Hid (Below w.heap.size w W) → Hid (RdB W (.slice sa0 sn0 sc0) (r0)) → Hid (RdB W (.slice sa1 sn1 sc1) (r1)) → Hid (RdB W (.slice sa2 sn2 sc2) (r2)) → Hid (RdB W (.slice sa3 sn3 sc3) (r3)) → Hid (RdB W (.slice sa4 sn4 sc4) (r4)) → Hid (RdB W (.slice sa5 sn5 sc5) (r5)) → Hid (RdB W (.slice sa6 sn6 sc6) (r6)) → Hid (RdB W (.slice sa7 sn7 sc7) (r7)) → Hid (RdB W (.slice sa8 sn8 sc8) (r8)) → Hid (Blk F0 2 [.int .i64 d0, .int .i64 d1, .int .i64 d2] W) → Hid (Blk F1 2 [.int .i64 e0, .int .i64 e1] W) → G 3 #[true, true, true, true, true, true, true, true, true, true, true, true, true, true, true, true, true, true, true, true, true, true, true, true, true, true, true, true, true, true, true, true, true, true, true, true, false, false, false] ⟨#[.agg (lnC id t0 t1 t2 t3 t4 t5 pa pn pc b0 b1 b2 b3 b4 b5 b6 b7 b8 b9 b10 b11 s z k0 k1 k2 k3 k4 k5 k6 k7 k8 k9 k10 k11 k12 d0 d1 d2 l0 l1 l2 l3 l4 y e0 e1).toArray, .pointer (some ⟨w.heap.size, 0, none⟩), .slice none 0 0, .pointer (some ⟨w.heap.size, 0, none⟩), .int .i64 id, .slice sa0 sn0 sc0, .pointer (some ⟨w.heap.size, 1, none⟩), .agg ([.int .i64 t0, .int .i64 t1, .int .i64 t2, .int .i64 t3, .int .i64 t4, .int .i64 t5]).toArray, .slice sa1 sn1 sc1, .pointer (some ⟨w.heap.size, 7, none⟩), .slice pa pn pc, .slice sa2 sn2 sc2, .pointer (some ⟨w.heap.size, 8, none⟩), .pointer (some ⟨w.heap.size, 8, none⟩), .slice (some ⟨w.heap.size, 8, none⟩) 12 12, .slice sa3 sn3 sc3, .pointer (some ⟨w.heap.size, 20, none⟩), .agg ([.int .i64 s, .bool z, .int .i64 k0, .int .i64 k1, .int .i64 k2, .int .i64 k3, .int .i64 k4, .int .i64 k5, .int .i64 k6, .int .i64 k7, .int .i64 k8, .int .i64 k9, .int .i64 k10, .int .i64 k11, .int .i64 k12]).toArray, .slice sa4 sn4 sc4, .pointer (some ⟨w.heap.size, 35, none⟩), .int .i64 d0, .pointer (some ⟨w.heap.size, 36, none⟩), .int .i64 d1, .pointer (some ⟨w.heap.size, 37, none⟩), .int .i64 d2, .slice (some ⟨F0, 0, none⟩) 3 3, .slice sa5 sn5 sc5, .pointer (some ⟨w.heap.size, 38, none⟩), .agg ([.int .i64 l0, .int .i64 l1, .int .i64 l2, .int .i64 l3, .int .i64 l4]).toArray, .slice sa6 sn6 sc6, .pointer (some ⟨w.heap.size, 43, none⟩), .bool y, .slice sa7 sn7 sc7, .pointer (some ⟨w.heap.size, 44, none⟩), .int .i64 e0, .pointer (some ⟨w.heap.size, 45, none⟩), .int .i64 e1, .slice (some ⟨F1, 0, none⟩) 2 2, .slice sa8 sn8 sc8, undef, undef], []⟩ W := by
    intro W sa0 sn0 sc0 sa1 sn1 sc1 sa2 sn2 sc2 sa3 sn3 sc3 sa4 sn4 sc4 sa5 sn5 sc5 sa6 sn6 sc6 sa7 sn7 sc7 sa8 sn8 sc8 F0 F1 BL BW D0 D1 D2 D3 D4 D5 D6 D7 D8 G0 G1
    refine hG.1 _ _ _ _ ?_
    refine wpAnyH_ready (rs := [36]) (by kernel_rfl) (by simp) ?_
    refine AllReadyH.cons (o := { dst := some 39, op := Op.buildSlice 126 9 #[(0, Operand.tmp 5), (1, Operand.tmp 8), (2, Operand.tmp 11), (3, Operand.tmp 15), (4, Operand.tmp 18), (5, Operand.tmp 26), (6, Operand.tmp 29), (7, Operand.tmp 32), (8, Operand.tmp 38)], type := 126, pos := "encode.go:59", after := #[{ on := 2, ground := Ground.data }, { on := 5, ground := Ground.data }, { on := 8, ground := Ground.data }, { on := 12, ground := Ground.data }, { on := 15, ground := Ground.data }, { on := 23, ground := Ground.data }, { on := 26, ground := Ground.data }, { on := 29, ground := Ground.data }, { on := 35, ground := Ground.data }], guard := none }) rfl (fun K hK => ?_) AllReadyH.nil
    go_simp
    refine hK.out _ _ (BL.out.below (below_alloc _ _)) (fun _ => ?_)
    try simp only [List.setIfInBounds_toArray, List.set_cons_zero, List.set_cons_succ]
    refine wpAnyH_ready (rs := [37]) (by kernel_rfl) (by simp) ?_
    refine AllReadyH.cons (o := { dst := some 40, op := Op.call { callee := Callee.value (Operand.func 34), args := #[Operand.tmp 39], argTypes := #[126] }, type := 33, pos := "encode.go:59", after := #[{ on := 36, ground := Ground.data }, { on := 35, ground := Ground.chain }], guard := none }) rfl (fun K hK => ?_) AllReadyH.nil
    go_simp
    refine (CN.out W sa0 sn0 sc0 sa1 sn1 sc1 sa2 sn2 sc2 sa3 sn3 sc3 sa4 sn4 sc4 sa5 sn5 sc5 sa6 sn6 sc6 sa7 sn7 sc7 sa8 sn8 sc8 D0.out D1.out D2.out D3.out D4.out D5.out D6.out D7.out D8.out).mono ?_
    rintro e W2 ⟨v, rfl, rv, bX⟩
    have R9 : Hid (RowB 5 w.heap.size W2 v RR) := RowV.mono rv BW.out.size
    have B9 : Hid (Below w.heap.size w W2) := below_trans BW.out bX
    refine hK.out _ _ (BL.out.below bX) (fun hH => ?_)
    try simp only [List.setIfInBounds_toArray, List.set_cons_zero, List.set_cons_succ]
    refine wpAnyH_take (i := 38) (oi := { dst := some 2, op := Op.assign (Operand.tmp 40), type := 33, pos := "encode.go:59", after := #[{ on := 37, ground := Ground.data }, { on := 37, ground := Ground.chain }, { on := 0, ground := Ground.phase }, { on := 1, ground := Ground.phase }, { on := 2, ground := Ground.phase }, { on := 3, ground := Ground.phase }, { on := 4, ground := Ground.phase }, { on := 5, ground := Ground.phase }, { on := 6, ground := Ground.phase }, { on := 7, ground := Ground.phase }, { on := 8, ground := Ground.phase }, { on := 9, ground := Ground.phase }, { on := 10, ground := Ground.phase }, { on := 11, ground := Ground.phase }, { on := 12, ground := Ground.phase }, { on := 13, ground := Ground.phase }, { on := 14, ground := Ground.phase }, { on := 15, ground := Ground.phase }, { on := 16, ground := Ground.phase }, { on := 17, ground := Ground.phase }, { on := 18, ground := Ground.phase }, { on := 19, ground := Ground.phase }, { on := 20, ground := Ground.phase }, { on := 21, ground := Ground.phase }, { on := 22, ground := Ground.phase }, { on := 23, ground := Ground.phase }, { on := 24, ground := Ground.phase }, { on := 25, ground := Ground.phase }, { on := 26, ground := Ground.phase }, { on := 27, ground := Ground.phase }, { on := 28, ground := Ground.phase }, { on := 29, ground := Ground.phase }, { on := 30, ground := Ground.phase }, { on := 31, ground := Ground.phase }, { on := 32, ground := Ground.phase }, { on := 33, ground := Ground.phase }, { on := 34, ground := Ground.phase }, { on := 35, ground := Ground.phase }, { on := 36, ground := Ground.phase }, { on := 37, ground := Ground.phase }], guard := none }) (v := v) rfl (by kernel_rfl) (by kernel_rfl) (by kernel_rfl) (fun _ _ _ h => h) (Or.inl ⟨by rfl, fun w' h => by go_simp⟩) hH ?_
    try simp only [Act.put, List.setIfInBounds_toArray, List.set_cons_zero, List.set_cons_succ]
    refine wpAnyH_done (by kernel_rfl) ?_ _
    clear hH hK rv bX
    go_wp2_with fail
    go_ret
    exact ⟨_, rfl, R9.out, B9.out⟩
  have Q8_01 : ∀ (W : World) (sa0 : Option Addr) (sn0 sc0 : Nat) (sa1 : Option Addr) (sn1 sc1 : Nat) (sa2 : Option Addr) (sn2 sc2 : Nat) (sa3 : Option Addr) (sn3 sc3 : Nat) (sa4 : Option Addr) (sn4 sc4 : Nat) (sa5 : Option Addr) (sn5 sc5 : Nat) (sa6 : Option Addr) (sn6 sc6 : Nat) (sa7 : Option Addr) (sn7 sc7 : Nat) (F0 : Nat) (F1 : Nat), Hid (Blk (w.heap.size) 65 ((lnC id t0 t1 t2 t3 t4 t5 pa pn pc b0 b1 b2 b3 b4 b5 b6 b7 b8 b9 b10 b11 s z k0 k1 k2 k3 k4 k5 k6 k7 k8 k9 k10 k11 k12 d0 d1 d2 l0 l1 l2 l3 l4 y e0 e1)) W) → Hid (Below w.heap.size w W) → Hid (RdB W (.slice sa0 sn0 sc0) (r0)) → Hid (RdB W (.slice sa1 sn1 sc1) (r1)) → Hid (RdB W (.slice sa2 sn2 sc2) (r2)) → Hid (RdB W (.slice sa3 sn3 sc3) (r3)) → Hid (RdB W (.slice sa4 sn4 sc4) (r4)) → Hid (RdB W (.slice sa5 sn5 sc5) (r5)) → Hid (RdB W (.slice sa6 sn6 sc6) (r6)) → Hid (RdB W (.slice sa7 sn7 sc7) (r7)) → Hid (Blk F0 2 [.int .i64 d0, .int .i64 d1, .int .i64 d2] W) → Hid (Blk F1 2 [.int .i64 e0, .int .i64 e1] W) → G 4 #[true, true, true, true, true, true, true, true, true, true, true, true, true, true, true, true, true, true, true, true, true, true, true, true, true, true, true, true, true, true, true, true, true, true, true, false, false, false, false] ⟨#[.agg (lnC id t0 t1 t2 t3 t4 t5 pa pn pc b0 b1 b2 b3 b4 b5 b6 b7 b8 b9 b10 b11 s z k0 k1 k2 k3 k4 k5 k6 k7 k8 k9 k10 k11 k12 d0 d1 d2 l0 l1 l2 l3 l4 y e0 e1).toArray, .pointer (some ⟨w.heap.size, 0, none⟩), .slice none 0 0, .pointer (some ⟨w.heap.size, 0, none⟩), .int .i64 id, .slice sa0 sn0 sc0, .pointer (some ⟨w.heap.size, 1, none⟩), .agg ([.int .i64 t0, .int .i64 t1, .int .i64 t2, .int .i64 t3, .int .i64 t4, .int .i64 t5]).toArray, .slice sa1 sn1 sc1, .pointer (some ⟨w.heap.size, 7, none⟩), .slice pa pn pc, .slice sa2 sn2 sc2, .pointer (some ⟨w.heap.size, 8, none⟩), .pointer (some ⟨w.heap.size, 8, none⟩), .slice (some ⟨w.heap.size, 8, none⟩) 12 12, .slice sa3 sn3 sc3, .pointer (some ⟨w.heap.size, 20, none⟩), .agg ([.int .i64 s, .bool z, .int .i64 k0, .int .i64 k1, .int .i64 k2, .int .i64 k3, .int .i64 k4, .int .i64 k5, .int .i64 k6, .int .i64 k7, .int .i64 k8, .int .i64 k9, .int .i64 k10, .int .i64 k11, .int .i64 k12]).toArray, .slice sa4 sn4 sc4, .pointer (some ⟨w.heap.size, 35, none⟩), .int .i64 d0, .pointer (some ⟨w.heap.size, 36, none⟩), .int .i64 d1, .pointer (some ⟨w.heap.size, 37, none⟩), .int .i64 d2, .slice (some ⟨F0, 0, none⟩) 3 3, .slice sa5 sn5 sc5, .pointer (some ⟨w.heap.size, 38, none⟩), .agg ([.int .i64 l0, .int .i64 l1, .int .i64 l2, .int .i64 l3, .int .i64 l4]).toArray, .slice sa6 sn6 sc6, .pointer (some ⟨w.heap.size, 43, none⟩), .bool y, .slice sa7 sn7 sc7, .pointer (some ⟨w.heap.size, 44, none⟩), .int .i64 e0, .pointer (some ⟨w.heap.size, 45, none⟩), .int .i64 e1, .slice (some ⟨F1, 0, none⟩) 2 2, undef, undef, undef], []⟩ W := by
    intro W sa0 sn0 sc0 sa1 sn1 sc1 sa2 sn2 sc2 sa3 sn3 sc3 sa4 sn4 sc4 sa5 sn5 sc5 sa6 sn6 sc6 sa7 sn7 sc7 F0 F1 BL BW D0 D1 D2 D3 D4 D5 D6 D7 G0 G1
    refine hG.1 _ _ _ _ ?_
    refine wpAnyH_ready (rs := [35]) (by kernel_rfl) (by simp) ?_
    refine AllReadyH.cons (o := { dst := some 38, op := Op.call { callee := Callee.value (Operand.func 39), args := #[Operand.tmp 37], argTypes := #[110] }, type := 33, pos := "encode.go:68", after := #[{ on := 34, ground := Ground.data }, { on := 29, ground := Ground.chain }], guard := none }) rfl (fun K hK => ?_) AllReadyH.nil
    go_simp
    refine (C8.out W F1 G1.out).mono ?_
    rintro e W2 ⟨v, rfl, rv, bX⟩
    obtain ⟨sa8, sc8, ev, -, -⟩ := (RowV.rd rv).len
    generalize ((r8).map bv).length = sn8 at ev
    subst ev
    have BL' : Hid (Blk (w.heap.size) 65 ((lnC id t0 t1 t2 t3 t4 t5 pa pn pc b0 b1 b2 b3 b4 b5 b6 b7 b8 b9 b10 b11 s z k0 k1 k2 k3 k4 k5 k6 k7 k8 k9 k10 k11 k12 d0 d1 d2 l0 l1 l2 l3 l4 y e0 e1)) W2) := BL.out.below bX
    have BW' : Hid (Below w.heap.size w W2) := below_trans BW.out bX
    have D0' : Hid (RdB W2 (.slice sa0 sn0 sc0) (r0)) := D0.out.later bX
    have D1' : Hid (RdB W2 (.slice sa1 sn1 sc1) (r1)) := D1.out.later bX
    have D2' : Hid (RdB W2 (.slice sa2 sn2 sc2) (r2)) := D2.out.later bX
    have D3' : Hid (RdB W2 (.slice sa3 sn3 sc3) (r3)) := D3.out.later bX
    have D4' : Hid (RdB W2 (.slice sa4 sn4 sc4) (r4)) := D4.out.later bX
    have D5' : Hid (RdB W2 (.slice sa5 sn5 sc5) (r5)) := D5.out.later bX
    have D6' : Hid (RdB W2 (.slice sa6 sn6 sc6) (r6)) := D6.out.later bX
    have D7' : Hid (RdB W2 (.slice sa7 sn7 sc7) (r7)) := D7.out.later bX
    have D8' : Hid (RdB W2 (.slice sa8 sn8 sc8) (r8)) := RowV.rd rv
    have G0' : Hid (Blk F0 2 [.int .i64 d0, .int .i64 d1, .int .i64 d2] W2) := G0.out.below bX
    have G1' : Hid (Blk F1 2 [.int .i64 e0, .int .i64 e1] W2) := G1.out.below bX
    refine hK.out _ _ BL'.out (fun _ => ?_)
    try simp only [List.setIfInBounds_toArray, List.set_cons_zero, List.set_cons_succ]
    exact hG.2 _ _ _ _ (Q9_01 W2 _ _ _ _ _ _ _ _ _ _ _ _ _ _ _ _ _ _ _ _ _ _ _ _ _ _ _ _ _ BL' BW' D0' D1' D2' D3' D4' D5' D6' D7' D8' G0' G1')
  have Q8_0 : ∀ (W : World) (sa0 : Option Addr) (sn0 sc0 : Nat) (sa1 : Option Addr) (sn1 sc1 : Nat) (sa2 : Option Addr) (sn2 sc2 : Nat) (sa3 : Option Addr) (sn3 sc3 : Nat) (sa4 : Option Addr) (sn4 sc4 : Nat) (sa5 : Option Addr) (sn5 sc5 : Nat) (sa6 : Option Addr) (sn6 sc6 : Nat) (sa7 : Option Addr) (sn7 sc7 : Nat) (F0 : Nat), Hid (Blk (w.heap.size) 65 ((lnC id t0 t1 t2 t3 t4 t5 pa pn pc b0 b1 b2 b3 b4 b5 b6 b7 b8 b9 b10 b11 s z k0 k1 k2 k3 k4 k5 k6 k7 k8 k9 k10 k11 k12 d0 d1 d2 l0 l1 l2 l3 l4 y e0 e1)) W) → Hid (Below w.heap.size w W) → Hid (RdB W (.slice sa0 sn0 sc0) (r0)) → Hid (RdB W (.slice sa1 sn1 sc1) (r1)) → Hid (RdB W (.slice sa2 sn2 sc2) (r2)) → Hid (RdB W (.slice sa3 sn3 sc3) (r3)) → Hid (RdB W (.slice sa4 sn4 sc4) (r4)) → Hid (RdB W (.slice sa5 sn5 sc5) (r5)) → Hid (RdB W (.slice sa6 sn6 sc6) (r6)) → Hid (RdB W (.slice sa7 sn7 sc7) (r7)) → Hid (Blk F0 2 [.int .i64 d0, .int .i64 d1, .int .i64 d2] W) → G 5 #[true, true, true, true, true, true, true, true, true, true, true, true, true, true, true, true, true, true, true, true, true, true, true, true, true, true, true, true, true, true, true, true, true, true, false, false, false, false, false] ⟨#[.agg (lnC id t0 t1 t2 t3 t4 t5 pa pn pc b0 b1 b2 b3 b4 b5 b6 b7 b8 b9 b10 b11 s z k0 k1 k2 k3 k4 k5 k6 k7 k8 k9 k10 k11 k12 d0 d1 d2 l0 l1 l2 l3 l4 y e0 e1).toArray, .pointer (some ⟨w.heap.size, 0, none⟩), .slice none 0 0, .pointer (some ⟨w.heap.size, 0, none⟩), .int .i64 id, .slice sa0 sn0 sc0, .pointer (some ⟨w.heap.size, 1, none⟩), .agg ([.int .i64 t0, .int .i64 t1, .int .i64 t2, .int .i64 t3, .int .i64 t4, .int .i64 t5]).toArray, .slice sa1 sn1 sc1, .pointer (some ⟨w.heap.size, 7, none⟩), .slice pa pn pc, .slice sa2 sn2 sc2, .pointer (some ⟨w.heap.size, 8, none⟩), .pointer (some ⟨w.heap.size, 8, none⟩), .slice (some ⟨w.heap.size, 8, none⟩) 12 12, .slice sa3 sn3 sc3, .pointer (some ⟨w.heap.size, 20, none⟩), .agg ([.int .i64 s, .bool z, .int .i64 k0, .int .i64 k1, .int .i64 k2, .int .i64 k3, .int .i64 k4, .int .i64 k5, .int .i64 k6, .int .i64 k7, .int .i64 k8, .int .i64 k9, .int .i64 k10, .int .i64 k11, .int .i64 k12]).toArray, .slice sa4 sn4 sc4, .pointer (some ⟨w.heap.size, 35, none⟩), .int .i64 d0, .pointer (some ⟨w.heap.size, 36, none⟩), .int .i64 d1, .pointer (some ⟨w.heap.size, 37, none⟩), .int .i64 d2, .slice (some ⟨F0, 0, none⟩) 3 3, .slice sa5 sn5 sc5, .pointer (some ⟨w.heap.size, 38, none⟩), .agg ([.int .i64 l0, .int .i64 l1, .int .i64 l2, .int .i64 l3, .int .i64 l4]).toArray, .slice sa6 sn6 sc6, .pointer (some ⟨w.heap.size, 43, none⟩), .bool y, .slice sa7 sn7 sc7, .pointer (some ⟨w.heap.size, 44, none⟩), .int .i64 e0, .pointer (some ⟨w.heap.size, 45, none⟩), .int .i64 e1, undef, undef, undef, undef], []⟩ W := by
    intro W sa0 sn0 sc0 sa1 sn1 sc1 sa2 sn2 sc2 sa3 sn3 sc3 sa4 sn4 sc4 sa5 sn5 sc5 sa6 sn6 sc6 sa7 sn7 sc7 F0 BL BW D0 D1 D2 D3 D4 D5 D6 D7 G0
    refine hG.1 _ _ _ _ ?_
    refine wpAnyH_ready (rs := [34]) (by kernel_rfl) (by simp) ?_
    refine AllReadyH.cons (o := { dst := some 37, op := Op.buildSlice 110 2 #[(0, Operand.tmp 34), (1, Operand.tmp 36)], type := 110, pos := "encode.go:59", after := #[{ on := 31, ground := Ground.data }, { on := 33, ground := Ground.data }], guard := none }) rfl (fun K hK => ?_) AllReadyH.nil
    go_simp
    have bX := below_alloc W (.cells #[.int .i64 e0, .int .i64 e1] 2)
    have G1' : Hid (Blk W.heap.size 2 [.int .i64 e0, .int .i64 e1] (W.alloc (.cells #[.int .i64 e0, .int .i64 e1] 2))) := Blk.new _ _ _
    have BL' : Hid (Blk (w.heap.size) 65 ((lnC id t0 t1 t2 t3 t4 t5 pa pn pc b0 b1 b2 b3 b4 b5 b6 b7 b8 b9 b10 b11 s z k0 k1 k2 k3 k4 k5 k6 k7 k8 k9 k10 k11 k12 d0 d1 d2 l0 l1 l2 l3 l4 y e0 e1)) (W.alloc (.cells #[.int .i64 e0, .int .i64 e1] 2))) := BL.out.below bX
    have BW' : Hid (Below w.heap.size w (W.alloc (.cells #[.int .i64 e0, .int .i64 e1] 2))) := below_trans BW.out bX
    have D0' : Hid (RdB (W.alloc (.cells #[.int .i64 e0, .int .i64 e1] 2)) (.slice sa0 sn0 sc0) (r0)) := D0.out.later bX
    have D1' : Hid (RdB (W.alloc (.cells #[.int .i64 e0, .int .i64 e1] 2)) (.slice sa1 sn1 sc1) (r1)) := D1.out.later bX
    have D2' : Hid (RdB (W.alloc (.cells #[.int .i64 e0, .int .i64 e1] 2)) (.slice sa2 sn2 sc2) (r2)) := D2.out.later bX
    have D3' : Hid (RdB (W.alloc (.cells #[.int .i64 e0, .int .i64 e1] 2)) (.slice sa3 sn3 sc3) (r3)) := D3.out.later bX
    have D4' : Hid (RdB (W.alloc (.cells #[.int .i64 e0, .int .i64 e1] 2)) (.slice sa4 sn4 sc4) (r4)) := D4.out.later bX
    have D5' : Hid (RdB (W.alloc (.cells #[.int .i64 e0, .int .i64 e1] 2)) (.slice sa5 sn5 sc5) (r5)) := D5.out.later bX
    have D6' : Hid (RdB (W.alloc (.cells #[.int .i64 e0, .int .i64 e1] 2)) (.slice sa6 sn6 sc6) (r6)) := D6.out.later bX
    have D7' : Hid (RdB (W.alloc (.cells #[.int .i64 e0, .int .i64 e1] 2)) (.slice sa7 sn7 sc7) (r7)) := D7.out.later bX
    have G0' : Hid (Blk F0 2 [.int .i64 d0, .int .i64 d1, .int .i64 d2] (W.alloc (.cells #[.int .i64 e0, .int .i64 e1] 2))) := G0.out.below bX
    refine hK.out _ _ BL'.out (fun _ => ?_)
    try simp only [List.setIfInBounds_toArray, List.set_cons_zero, List.set_cons_succ]
    exact hG.2 _ _ _ _ (Q8_01 _ _ _ _ _ _ _ _ _ _ _ _ _ _ _ _ _ _ _ _ _ _ _ _ _ _ _ BL' BW' D0' D1' D2' D3' D4' D5' D6' D7' G0' G1')
  have Q7_01 : ∀ (W : World) (sa0 : Option Addr) (sn0 sc0 : Nat) (sa1 : Option Addr) (sn1 sc1 : Nat) (sa2 : Option Addr) (sn2 sc2 : Nat) (sa3 : Option Addr) (sn3 sc3 : Nat) (sa4 : Option Addr) (sn4 sc4 : Nat) (sa5 : Option Addr) (sn5 sc5 : Nat) (sa6 : Option Addr) (sn6 sc6 : Nat) (F0 : Nat) (F1 : Nat), Hid (Blk (w.heap.size) 65 ((lnC id t0 t1 t2 t3 t4 t5 pa pn pc b0 b1 b2 b3 b4 b5 b6 b7 b8 b9 b10 b11 s z k0 k1 k2 k3 k4 k5 k6 k7 k8 k9 k10 k11 k12 d0 d1 d2 l0 l1 l2 l3 l4 y e0 e1)) W) → Hid (Below w.heap.size w W) → Hid (RdB W (.slice sa0 sn0 sc0) (r0)) → Hid (RdB W (.slice sa1 sn1 sc1) (r1)) → Hid (RdB W (.slice sa2 sn2 sc2) (r2)) → Hid (RdB W (.slice sa3 sn3 sc3) (r3)) → Hid (RdB W (.slice sa4 sn4 sc4) (r4)) → Hid (RdB W (.slice sa5 sn5 sc5) (r5)) → Hid (RdB W (.slice sa6 sn6 sc6) (r6)) → Hid (Blk F0 2 [.int .i64 d0, .int .i64 d1, .int .i64 d2] W) → Hid (Blk F1 2 [.int .i64 e0, .int .i64 e1] W) → G 5 #[true, true, true, true, true, true, true, true, true, true, true, true, true, true, true, true, true, true, true, true, true, true, true, true, true, true, true, true, true, false, true, true, true, true, true, false, false, false, false] ⟨#[.agg (lnC id t0 t1 t2 t3 t4 t5 pa pn pc b0 b1 b2 b3 b4 b5 b6 b7 b8 b9 b10 b11 s z k0 k1 k2 k3 k4 k5 k6 k7 k8 k9 k10 k11 k12 d0 d1 d2 l0 l1 l2 l3 l4 y e0 e1).toArray, .pointer (some ⟨w.heap.size, 0, none⟩), .slice none 0 0, .pointer (some ⟨w.heap.size, 0, none⟩), .int .i64 id, .slice sa0 sn0 sc0, .pointer (some ⟨w.heap.size, 1, none⟩), .agg ([.int .i64 t0, .int .i64 t1, .int .i64 t2, .int .i64 t3, .int .i64 t4, .int .i64 t5]).toArray, .slice sa1 sn1 sc1, .pointer (some ⟨w.heap.size, 7, none⟩), .slice pa pn pc, .slice sa2 sn2 sc2, .pointer (some ⟨w.heap.size, 8, none⟩), .pointer (some ⟨w.heap.size, 8, none⟩), .slice (some ⟨w.heap.size, 8, none⟩) 12 12, .slice sa3 sn3 sc3, .pointer (some ⟨w.heap.size, 20, none⟩), .agg ([.int .i64 s, .bool z, .int .i64 k0, .int .i64 k1, .int .i64 k2, .int .i64 k3, .int .i64 k4, .int .i64 k5, .int .i64 k6, .int .i64 k7, .int .i64 k8, .int .i64 k9, .int .i64 k10, .int .i64 k11, .int .i64 k12]).toArray, .slice sa4 sn4 sc4, .pointer (some ⟨w.heap.size, 35, none⟩), .int .i64 d0, .pointer (some ⟨w.heap.size, 36, none⟩), .int .i64 d1, .pointer (some ⟨w.heap.size, 37, none⟩), .int .i64 d2, .slice (some ⟨F0, 0, none⟩) 3 3, .slice sa5 sn5 sc5, .pointer (some ⟨w.heap.size, 38, none⟩), .agg ([.int .i64 l0, .int .i64 l1, .int .i64 l2, .int .i64 l3, .int .i64 l4]).toArray, .slice sa6 sn6 sc6, .pointer (some ⟨w.heap.size, 43, none⟩), .bool y, undef, .pointer (some ⟨w.heap.size, 44, none⟩), .int .i64 e0, .pointer (some ⟨w.heap.size, 45, none⟩), .int .i64 e1, .slice (some ⟨F1, 0, none⟩) 2 2, undef, undef, undef], []⟩ W := by
    intro W sa0 sn0 sc0 sa1 sn1 sc1 sa2 sn2 sc2 sa3 sn3 sc3 sa4 sn4 sc4 sa5 sn5 sc5 sa6 sn6 sc6 F0 F1 BL BW D0 D1 D2 D3 D4 D5 D6 G0 G1
    refine hG.1 _ _ _ _ ?_
    refine wpAnyH_ready (rs := [29]) (by kernel_rfl) (by simp) ?_
    refine AllReadyH.cons (o := { dst := some 32, op := Op.call { callee := Callee.value (Operand.func 60), args := #[Operand.tmp 31], argTypes := #[4] }, type := 33, pos := "encode.go:67", after := #[{ on := 28, ground := Ground.data }, { on := 26, ground := Ground.chain }], guard := none }) rfl (fun K hK => ?_) AllReadyH.nil
    go_simp
    refine (C7.out W).mono ?_
    rintro e W2 ⟨v, rfl, rv, bX⟩
    obtain ⟨sa7, sc7, ev, -, -⟩ := (RowV.rd rv).len
    generalize ((r7).map bv).length = sn7 at ev
    subst ev
    have BL' : Hid (Blk (w.heap.size) 65 ((lnC id t0 t1 t2 t3 t4 t5 pa pn pc b0 b1 b2 b3 b4 b5 b6 b7 b8 b9 b10 b11 s z k0 k1 k2 k3 k4 k5 k6 k7 k8 k9 k10 k11 k12 d0 d1 d2 l0 l1 l2 l3 l4 y e0 e1)) W2) := BL.out.below bX
    have BW' : Hid (Below w.heap.size w W2) := below_trans BW.out bX
    have D0' : Hid (RdB W2 (.slice sa0 sn0 sc0) (r0)) := D0.out.later bX
    have D1' : Hid (RdB W2 (.slice sa1 sn1 sc1) (r1)) := D1.out.later bX
    have D2' : Hid (RdB W2 (.slice sa2 sn2 sc2) (r2)) := D2.out.later bX
    have D3' : Hid (RdB W2 (.slice sa3 sn3 sc3) (r3)) := D3.out.later bX
    have D4' : Hid (RdB W2 (.slice sa4 sn4 sc4) (r4)) := D4.out.later bX
    have D5' : Hid (RdB W2 (.slice sa5 sn5 sc5) (r5)) := D5.out.later bX
    have D6' : Hid (RdB W2 (.slice sa6 sn6 sc6) (r6)) := D6.out.later bX
    have D7' : Hid (RdB W2 (.slice sa7 sn7 sc7) (r7)) := RowV.rd rv
    have G0' : Hid (Blk F0 2 [.int .i64 d0, .int .i64 d1, .int .i64 d2] W2) := G0.out.below bX
    have G1' : Hid (Blk F1 2 [.int .i64 e0, .int .i64 e1] W2) := G1.out.below bX
    refine hK.out _ _ BL'.out (fun _ => ?_)
    try simp only [List.setIfInBounds_toArray, List.set_cons_zero, List.set_cons_succ]
    exact hG.2 _ _ _ _ (Q8_01 W2 _ _ _ _ _ _ _ _ _ _ _ _ _ _ _ _ _ _ _ _ _ _ _ _ _ _ BL' BW' D0' D1' D2' D3' D4' D5' D6' D7' G0' G1')
  have Q7_0 : ∀ (W : World) (sa0 : Option Addr) (sn0 sc0 : Nat) (sa1 : Option Addr) (sn1 sc1 : Nat) (sa2 : Option Addr) (sn2 sc2 : Nat) (sa3 : Option Addr) (sn3 sc3 : Nat) (sa4 : Option Addr) (sn4 sc4 : Nat) (sa5 : Option Addr) (sn5 sc5 : Nat) (sa6 : Option Addr) (sn6 sc6 : Nat) (F0 : Nat), Hid (Blk (w.heap.size) 65 ((lnC id t0 t1 t2 t3 t4 t5 pa pn pc b0 b1 b2 b3 b4 b5 b6 b7 b8 b9 b10 b11 s z k0 k1 k2 k3 k4 k5 k6 k7 k8 k9 k10 k11 k12 d0 d1 d2 l0 l1 l2 l3 l4 y e0 e1)) W) → Hid (Below w.heap.size w W) → Hid (RdB W (.slice sa0 sn0 sc0) (r0)) → Hid (RdB W (.slice sa1 sn1 sc1) (r1)) → Hid (RdB W (.slice sa2 sn2 sc2) (r2)) → Hid (RdB W (.slice sa3 sn3 sc3) (r3)) → Hid (RdB W (.slice sa4 sn4 sc4) (r4)) → Hid (RdB W (.slice sa5 sn5 sc5) (r5)) → Hid (RdB W (.slice sa6 sn6 sc6) (r6)) → Hid (Blk F0 2 [.int .i64 d0, .int .i64 d1, .int .i64 d2] W) → G 6 #[true, true, true, true, true, true, true, true, true, true, true, true, true, true, true, true, true, true, true, true, true, true, true, true, true, true, true, true, true, false, true, true, true, true, false, false, false, false, false] ⟨#[.agg (lnC id t0 t1 t2 t3 t4 t5 pa pn pc b0 b1 b2 b3 b4 b5 b6 b7 b8 b9 b10 b11 s z k0 k1 k2 k3 k4 k5 k6 k7 k8 k9 k10 k11 k12 d0 d1 d2 l0 l1 l2 l3 l4 y e0 e1).toArray, .pointer (some ⟨w.heap.size, 0, none⟩), .slice none 0 0, .pointer (some ⟨w.heap.size, 0, none⟩), .int .i64 id, .slice sa0 sn0 sc0, .pointer (some ⟨w.heap.size, 1, none⟩), .agg ([.int .i64 t0, .int .i64 t1, .int .i64 t2, .int .i64 t3, .int .i64 t4, .int .i64 t5]).toArray, .slice sa1 sn1 sc1, .pointer (some ⟨w.heap.size, 7, none⟩), .slice pa pn pc, .slice sa2 sn2 sc2, .pointer (some ⟨w.heap.size, 8, none⟩), .pointer (some ⟨w.heap.size, 8, none⟩), .slice (some ⟨w.heap.size, 8, none⟩) 12 12, .slice sa3 sn3 sc3, .pointer (some ⟨w.heap.size, 20, none⟩), .agg ([.int .i64 s, .bool z, .int .i64 k0, .int .i64 k1, .int .i64 k2, .int .i64 k3, .int .i64 k4, .int .i64 k5, .int .i64 k6, .int .i64 k7, .int .i64 k8, .int .i64 k9, .int .i64 k10, .int .i64 k11, .int .i64 k12]).toArray, .slice sa4 sn4 sc4, .pointer (some ⟨w.heap.size, 35, none⟩), .int .i64 d0, .pointer (some ⟨w.heap.size, 36, none⟩), .int .i64 d1, .pointer (some ⟨w.heap.size, 37, none⟩), .int .i64 d2, .slice (some ⟨F0, 0, none⟩) 3 3, .slice sa5 sn5 sc5, .pointer (some ⟨w.heap.size, 38, none⟩), .agg ([.int .i64 l0, .int .i64 l1, .int .i64 l2, .int .i64 l3, .int .i64 l4]).toArray, .slice sa6 sn6 sc6, .pointer (some ⟨w.heap.size, 43, none⟩), .bool y, undef, .pointer (some ⟨w.heap.size, 44, none⟩), .int .i64 e0, .pointer (some ⟨w.heap.size, 45, none⟩), .int .i64 e1, undef, undef, undef, undef], []⟩ W := by
    intro W sa0 sn0 sc0 sa1 sn1 sc1 sa2 sn2 sc2 sa3 sn3 sc3 sa4 sn4 sc4 sa5 sn5 sc5 sa6 sn6 sc6 F0 BL BW D0 D1 D2 D3 D4 D5 D6 G0
    refine hG.1 _ _ _ _ ?_
    refine wpAnyH_ready (rs := [29, 34]) (by kernel_rfl) (by simp) ?_
    refine AllReadyH.cons (o := { dst := some 32, op := Op.call { callee := Callee.value (Operand.func 60), args := #[Operand.tmp 31], argTypes := #[4] }, type := 33, pos := "encode.go:67", after := #[{ on := 28, ground := Ground.data }, { on := 26, ground := Ground.chain }], guard := none }) rfl (fun K hK => ?_) (AllReadyH.cons (o := { dst := some 37, op := Op.buildSlice 110 2 #[(0, Operand.tmp 34), (1, Operand.tmp 36)], type := 110, pos := "encode.go:59", after := #[{ on := 31, ground := Ground.data }, { on := 33, ground := Ground.data }], guard := none }) rfl (fun K hK => ?_) AllReadyH.nil)
    · go_simp
      refine (C7.out W).mono ?_
      rintro e W2 ⟨v, rfl, rv, bX⟩
      obtain ⟨sa7, sc7, ev, -, -⟩ := (RowV.rd rv).len
      generalize ((r7).map bv).length = sn7 at ev
      subst ev
      have BL' : Hid (Blk (w.heap.size) 65 ((lnC id t0 t1 t2 t3 t4 t5 pa pn pc b0 b1 b2 b3 b4 b5 b6 b7 b8 b9 b10 b11 s z k0 k1 k2 k3 k4 k5 k6 k7 k8 k9 k10 k11 k12 d0 d1 d2 l0 l1 l2 l3 l4 y e0 e1)) W2) := BL.out.below bX
      have BW' : Hid (Below w.heap.size w W2) := below_trans BW.out bX
      have D0' : Hid (RdB W2 (.slice sa0 sn0 sc0) (r0)) := D0.out.later bX
      have D1' : Hid (RdB W2 (.slice sa1 sn1 sc1) (r1)) := D1.out.later bX
      have D2' : Hid (RdB W2 (.slice sa2 sn2 sc2) (r2)) := D2.out.later bX
      have D3' : Hid (RdB W2 (.slice sa3 sn3 sc3) (r3)) := D3.out.later bX
      have D4' : Hid (RdB W2 (.slice sa4 sn4 sc4) (r4)) := D4.out.later bX
      have D5' : Hid (RdB W2 (.slice sa5 sn5 sc5) (r5)) := D5.out.later bX
      have D6' : Hid (RdB W2 (.slice sa6 sn6 sc6) (r6)) := D6.out.later bX
      have D7' : Hid (RdB W2 (.slice sa7 sn7 sc7) (r7)) := RowV.rd rv
      have G0' : Hid (Blk F0 2 [.int .i64 d0, .int .i64 d1, .int .i64 d2] W2) := G0.out.below bX
      refine hK.out _ _ BL'.out (fun _ => ?_)
      try simp only [List.setIfInBounds_toArray, List.set_cons_zero, List.set_cons_succ]
      exact hG.2 _ _ _ _ (Q8_0 W2 _ _ _ _ _ _ _ _ _ _ _ _ _ _ _ _ _ _ _ _ _ _ _ _ _ BL' BW' D0' D1' D2' D3' D4' D5' D6' D7' G0')
    · go_simp
      have bX := below_alloc W (.cells #[.int .i64 e0, .int .i64 e1] 2)
      have G1' : Hid (Blk W.heap.size 2 [.int .i64 e0, .int .i64 e1] (W.alloc (.cells #[.int .i64 e0, .int .i64 e1] 2))) := Blk.new _ _ _
      have BL' : Hid (Blk (w.heap.size) 65 ((lnC id t0 t1 t2 t3 t4 t5 pa pn pc b0 b1 b2 b3 b4 b5 b6 b7 b8 b9 b10 b11 s z k0 k1 k2 k3 k4 k5 k6 k7 k8 k9 k10 k11 k12 d0 d1 d2 l0 l1 l2 l3 l4 y e0 e1)) (W.alloc (.cells #[.int .i64 e0, .int .i64 e1] 2))) := BL.out.below bX
      have BW' : Hid (Below w.heap.size w (W.alloc (.cells #[.int .i64 e0, .int .i64 e1] 2))) := below_trans BW.out bX
      have D0' : Hid (RdB (W.alloc (.cells #[.int .i64 e0, .int .i64 e1] 2)) (.slice sa0 sn0 sc0) (r0)) := D0.out.later bX
      have D1' : Hid (RdB (W.alloc (.cells #[.int .i64 e0, .int .i64 e1] 2)) (.slice sa1 sn1 sc1) (r1)) := D1.out.later bX
      have D2' : Hid (RdB (W.alloc (.cells #[.int .i64 e0, .int .i64 e1] 2)) (.slice sa2 sn2 sc2) (r2)) := D2.out.later bX
      have D3' : Hid (RdB (W.alloc (.cells #[.int .i64 e0, .int .i64 e1] 2)) (.slice sa3 sn3 sc3) (r3)) := D3.out.later bX
      have D4' : Hid (RdB (W.alloc (.cells #[.int .i64 e0, .int .i64 e1] 2)) (.slice sa4 sn4 sc4) (r4)) := D4.out.later bX
      have D5' : Hid (RdB (W.alloc (.cells #[.int .i64 e0, .int .i64 e1] 2)) (.slice sa5 sn5 sc5) (r5)) := D5.out.later bX
      have D6' : Hid (RdB (W.alloc (.cells #[.int .i64 e0, .int .i64 e1] 2)) (.slice sa6 sn6 sc6) (r6)) := D6.out.later bX
      have G0' : Hid (Blk F0 2 [.int .i64 d0, .int .i64 d1, .int .i64 d2] (W.alloc (.cells #[.int .i64 e0, .int .i64 e1] 2))) := G0.out.below bX
      refine hK.out _ _ BL'.out (fun _ => ?_)
      try simp only [List.setIfInBounds_toArray, List.set_cons_zero, List.set_cons_succ]
      exact hG.2 _ _ _ _ (Q7_01 _ _ _ _ _ _ _ _ _ _ _ _ _ _ _ _ _ _ _ _ _ _ _ _ BL' BW' D0' D1' D2' D3' D4' D5' D6' G0' G1')
  have Q6_01 : ∀ (W : World) (sa0 : Option Addr) (sn0 sc0 : Nat) (sa1 : Option Addr) (sn1 sc1 : Nat) (sa2 : Option Addr) (sn2 sc2 : Nat) (sa3 : Option Addr) (sn3 sc3 : Nat) (sa4 : Option Addr) (sn4 sc4 : Nat) (sa5 : Option Addr) (sn5 sc5 : Nat) (F0 : Nat) (F1 : Nat), Hid (Blk (w.heap.size) 65 ((lnC id t0 t1 t2 t3 t4 t5 pa pn pc b0 b1 b2 b3 b4 b5 b6 b7 b8 b9 b10 b11 s z k0 k1 k2 k3 k4 k5 k6 k7 k8 k9 k10 k11 k12 d0 d1 d2 l0 l1 l2 l3 l4 y e0 e1)) W) → Hid (Below w.heap.size w W) → Hid (RdB W (.slice sa0 sn0 sc0) (r0)) → Hid (RdB W (.slice sa1 sn1 sc1) (r1)) → Hid (RdB W (.slice sa2 sn2 sc2) (r2)) → Hid (RdB W (.slice sa3 sn3 sc3) (r3)) → Hid (RdB W (.slice sa4 sn4 sc4) (r4)) → Hid (RdB W (.slice sa5 sn5 sc5) (r5)) → Hid (Blk F0 2 [.int .i64 d0, .int .i64 d1, .int .i64 d2] W) → Hid (Blk F1 2 [.int .i64 e0, .int .i64 e1] W) → G 6 #[true, true, true, true, true, true, true, true, true, true, true, true, true, true, true, true, true, true, true, true, true, true, true, true, true, true, false, true, true, false, true, true, true, true, true, false, false, false, false] ⟨#[.agg (lnC id t0 t1 t2 t3 t4 t5 pa pn pc b0 b1 b2 b3 b4 b5 b6 b7 b8 b9 b10 b11 s z k0 k1 k2 k3 k4 k5 k6 k7 k8 k9 k10 k11 k12 d0 d1 d2 l0 l1 l2 l3 l4 y e0 e1).toArray, .pointer (some ⟨w.heap.size, 0, none⟩), .slice none 0 0, .pointer (some ⟨w.heap.size, 0, none⟩), .int .i64 id, .slice sa0 sn0 sc0, .pointer (some ⟨w.heap.size, 1, none⟩), .agg ([.int .i64 t0, .int .i64 t1, .int .i64 t2, .int .i64 t3, .int .i64 t4, .int .i64 t5]).toArray, .slice sa1 sn1 sc1, .pointer (some ⟨w.heap.size, 7, none⟩), .slice pa pn pc, .slice sa2 sn2 sc2, .pointer (some ⟨w.heap.size, 8, none⟩), .pointer (some ⟨w.heap.size, 8, none⟩), .slice (some ⟨w.heap.size, 8, none⟩) 12 12, .slice sa3 sn3 sc3, .pointer (some ⟨w.heap.size, 20, none⟩), .agg ([.int .i64 s, .bool z, .int .i64 k0, .int .i64 k1, .int .i64 k2, .int .i64 k3, .int .i64 k4, .int .i64 k5, .int .i64 k6, .int .i64 k7, .int .i64 k8, .int .i64 k9, .int .i64 k10, .int .i64 k11, .int .i64 k12]).toArray, .slice sa4 sn4 sc4, .pointer (some ⟨w.heap.size, 35, none⟩), .int .i64 d0, .pointer (some ⟨w.heap.size, 36, none⟩), .int .i64 d1, .pointer (some ⟨w.heap.size, 37, none⟩), .int .i64 d2, .slice (some ⟨F0, 0, none⟩) 3 3, .slice sa5 sn5 sc5, .pointer (some ⟨w.heap.size, 38, none⟩), .agg ([.int .i64 l0, .int .i64 l1, .int .i64 l2, .int .i64 l3, .int .i64 l4]).toArray, undef, .pointer (some ⟨w.heap.size, 43, none⟩), .bool y, undef, .pointer (some ⟨w.heap.size, 44, none⟩), .int .i64 e0, .pointer (some ⟨w.heap.size, 45, none⟩), .int .i64 e1, .slice (some ⟨F1, 0, none⟩) 2 2, undef, undef, undef], []⟩ W := by
    intro W sa0 sn0 sc0 sa1 sn1 sc1 sa2 sn2 sc2 sa3 sn3 sc3 sa4 sn4 sc4 sa5 sn5 sc5 F0 F1 BL BW D0 D1 D2 D3 D4 D5 G0 G1
    refine hG.1 _ _ _ _ ?_
    refine wpAnyH_ready (rs := [26]) (by kernel_rfl) (by simp) ?_
    refine AllReadyH.cons (o := { dst := some 29, op := Op.call { callee := Callee.value (Operand.func 59), args := #[Operand.tmp 28], argTypes := #[63] }, type := 33, pos := "encode.go:66", after := #[{ on := 25, ground := Ground.data }, { on := 23, ground := Ground.chain }], guard := none }) rfl (fun K hK => ?_) AllReadyH.nil
    go_simp
    refine (C6.out W).mono ?_
    rintro e W2 ⟨v, rfl, rv, bX⟩
    obtain ⟨sa6, sc6, ev, -, -⟩ := (RowV.rd rv).len
    generalize ((r6).map bv).length = sn6 at ev
    subst ev
    have BL' : Hid (Blk (w.heap.size) 65 ((lnC id t0 t1 t2 t3 t4 t5 pa pn pc b0 b1 b2 b3 b4 b5 b6 b7 b8 b9 b10 b11 s z k0 k1 k2 k3 k4 k5 k6 k7 k8 k9 k10 k11 k12 d0 d1 d2 l0 l1 l2 l3 l4 y e0 e1)) W2) := BL.out.below bX
    have BW' : Hid (Below w.heap.size w W2) := below_trans BW.out bX
    have D0' : Hid (RdB W2 (.slice sa0 sn0 sc0) (r0)) := D0.out.later bX
    have D1' : Hid (RdB W2 (.slice sa1 sn1 sc1) (r1)) := D1.out.later bX
    have D2' : Hid (RdB W2 (.slice sa2 sn2 sc2) (r2)) := D2.out.later bX
    have D3' : Hid (RdB W2 (.slice sa3 sn3 sc3) (r3)) := D3.out.later bX
    have D4' : Hid (RdB W2 (.slice sa4 sn4 sc4) (r4)) := D4.out.later bX
    have D5' : Hid (RdB W2 (.slice sa5 sn5 sc5) (r5)) := D5.out.later bX
    have D6' : Hid (RdB W2 (.slice sa6 sn6 sc6) (r6)) := RowV.rd rv
    have G0' : Hid (Blk F0 2 [.int .i64 d0, .int .i64 d1, .int .i64 d2] W2) := G0.out.below bX
    have G1' : Hid (Blk F1 2 [.int .i64 e0, .int .i64 e1] W2) := G1.out.below bX
    refine hK.out _ _ BL'.out (fun _ => ?_)
    try simp only [List.setIfInBounds_toArray, List.set_cons_zero, List.set_cons_succ]
    exact hG.2 _ _ _ _ (Q7_01 W2 _ _ _ _ _ _ _ _ _ _ _ _ _ _ _ _ _ _ _ _ _ _ _ BL' BW' D0' D1' D2' D3' D4' D5' D6' G0' G1')
  have Q6_0 : ∀ (W : World) (sa0 : Option Addr) (sn0 sc0 : Nat) (sa1 : Option Addr) (sn1 sc1 : Nat) (sa2 : Option Addr) (sn2 sc2 : Nat) (sa3 : Option Addr) (sn3 sc3 : Nat) (sa4 : Option Addr) (sn4 sc4 : Nat) (sa5 : Option Addr) (sn5 sc5 : Nat) (F0 : Nat), Hid (Blk (w.heap.size) 65 ((lnC id t0 t1 t2 t3 t4 t5 pa pn pc b0 b1 b2 b3 b4 b5 b6 b7 b8 b9 b10 b11 s z k0 k1 k2 k3 k4 k5 k6 k7 k8 k9 k10 k11 k12 d0 d1 d2 l0 l1 l2 l3 l4 y e0 e1)) W) → Hid (Below w.heap.size w W) → Hid (RdB W (.slice sa0 sn0 sc0) (r0)) → Hid (RdB W (.slice sa1 sn1 sc1) (r1)) → Hid (RdB W (.slice sa2 sn2 sc2) (r2)) → Hid (RdB W (.slice sa3 sn3 sc3) (r3)) → Hid (RdB W (.slice sa4 sn4 sc4) (r4)) → Hid (RdB W (.slice sa5 sn5 sc5) (r5)) → Hid (Blk F0 2 [.int .i64 d0, .int .i64 d1, .int .i64 d2] W) → G 7 #[true, true, true, true, true, true, true, true, true, true, true, true, true, true, true, true, true, true, true, true, true, true, true, true, true, true, false, true, true, false, true, true, true, true, false, false, false, false, false] ⟨#[.agg (lnC id t0 t1 t2 t3 t4 t5 pa pn pc b0 b1 b2 b3 b4 b5 b6 b7 b8 b9 b10 b11 s z k0 k1 k2 k3 k4 k5 k6 k7 k8 k9 k10 k11 k12 d0 d1 d2 l0 l1 l2 l3 l4 y e0 e1).toArray, .pointer (some ⟨w.heap.size, 0, none⟩), .slice none 0 0, .pointer (some ⟨w.heap.size, 0, none⟩), .int .i64 id, .slice sa0 sn0 sc0, .pointer (some ⟨w.heap.size, 1, none⟩), .agg ([.int .i64 t0, .int .i64 t1, .int .i64 t2, .int .i64 t3, .int .i64 t4, .int .i64 t5]).toArray, .slice sa1 sn1 sc1, .pointer (some ⟨w.heap.size, 7, none⟩), .slice pa pn pc, .slice sa2 sn2 sc2, .pointer (some ⟨w.heap.size, 8, none⟩), .pointer (some ⟨w.heap.size, 8, none⟩), .slice (some ⟨w.heap.size, 8, none⟩) 12 12, .slice sa3 sn3 sc3, .pointer (some ⟨w.heap.size, 20, none⟩), .agg ([.int .i64 s, .bool z, .int .i64 k0, .int .i64 k1, .int .i64 k2, .int .i64 k3, .int .i64 k4, .int .i64 k5, .int .i64 k6, .int .i64 k7, .int .i64 k8, .int .i64 k9, .int .i64 k10, .int .i64 k11, .int .i64 k12]).toArray, .slice sa4 sn4 sc4, .pointer (some ⟨w.heap.size, 35, none⟩), .int .i64 d0, .pointer (some ⟨w.heap.size, 36, none⟩), .int .i64 d1, .pointer (some ⟨w.heap.size, 37, none⟩), .int .i64 d2, .slice (some ⟨F0, 0, none⟩) 3 3, .slice sa5 sn5 sc5, .pointer (some ⟨w.heap.size, 38, none⟩), .agg ([.int .i64 l0, .int .i64 l1, .int .i64 l2, .int .i64 l3, .int .i64 l4]).toArray, undef, .pointer (some ⟨w.heap.size, 43, none⟩), .bool y, undef, .pointer (some ⟨w.heap.size, 44, none⟩), .int .i64 e0, .pointer (some ⟨w.heap.size, 45, none⟩), .int .i64 e1, undef, undef, undef, undef], []⟩ W := by
    intro W sa0 sn0 sc0 sa1 sn1 sc1 sa2 sn2 sc2 sa3 sn3 sc3 sa4 sn4 sc4 sa5 sn5 sc5 F0 BL BW D0 D1 D2 D3 D4 D5 G0
    refine hG.1 _ _ _ _ ?_
    refine wpAnyH_ready (rs := [26, 34]) (by kernel_rfl) (by simp) ?_
    refine AllReadyH.cons (o := { dst := some 29, op := Op.call { callee := Callee.value (Operand.func 59), args := #[Operand.tmp 28], argTypes := #[63] }, type := 33, pos := "encode.go:66", after := #[{ on := 25, ground := Ground.data }, { on := 23, ground := Ground.chain }], guard := none }) rfl (fun K hK => ?_) (AllReadyH.cons (o := { dst := some 37, op := Op.buildSlice 110 2 #[(0, Operand.tmp 34), (1, Operand.tmp 36)], type := 110, pos := "encode.go:59", after := #[{ on := 31, ground := Ground.data }, { on := 33, ground := Ground.data }], guard := none }) rfl (fun K hK => ?_) AllReadyH.nil)
    · go_simp
      refine (C6.out W).mono ?_
      rintro e W2 ⟨v, rfl, rv, bX⟩
      obtain ⟨sa6, sc6, ev, -, -⟩ := (RowV.rd rv).len
      generalize ((r6).map bv).length = sn6 at ev
      subst ev
      have BL' : Hid (Blk (w.heap.size) 65 ((lnC id t0 t1 t2 t3 t4 t5 pa pn pc b0 b1 b2 b3 b4 b5 b6 b7 b8 b9 b10 b11 s z k0 k1 k2 k3 k4 k5 k6 k7 k8 k9 k10 k11 k12 d0 d1 d2 l0 l1 l2 l3 l4 y e0 e1)) W2) := BL.out.below bX
      have BW' : Hid (Below w.heap.size w W2) := below_trans BW.out bX
      have D0' : Hid (RdB W2 (.slice sa0 sn0 sc0) (r0)) := D0.out.later bX
      have D1' : Hid (RdB W2 (.slice sa1 sn1 sc1) (r1)) := D1.out.later bX
      have D2' : Hid (RdB W2 (.slice sa2 sn2 sc2) (r2)) := D2.out.later bX
      have D3' : Hid (RdB W2 (.slice sa3 sn3 sc3) (r3)) := D3.out.later bX
      have D4' : Hid (RdB W2 (.slice sa4 sn4 sc4) (r4)) := D4.out.later bX
      have D5' : Hid (RdB W2 (.slice sa5 sn5 sc5) (r5)) := D5.out.later bX
      have D6' : Hid (RdB W2 (.slice sa6 sn6 sc6) (r6)) := RowV.rd rv
      have G0' : Hid (Blk F0 2 [.int .i64 d0, .int .i64 d1, .int .i64 d2] W2) := G0.out.below bX
      refine hK.out _ _ BL'.out (fun _ => ?_)
      try simp only [List.setIfInBounds_toArray, List.set_cons_zero, List.set_cons_succ]
      exact hG.2 _ _ _ _ (Q7_0 W2 _ _ _ _ _ _ _ _ _ _ _ _ _ _ _ _ _ _ _ _ _ _ BL' BW' D0' D1' D2' D3' D4' D5' D6' G0')
    · go_simp
      have bX := below_alloc W (.cells #[.int .i64 e0, .int .i64 e1] 2)
      have G1' : Hid (Blk W.heap.size 2 [.int .i64 e0, .int .i64 e1] (W.alloc (.cells #[.int .i64 e0, .int .i64 e1] 2))) := Blk.new _ _ _
      have BL' : Hid (Blk (w.heap.size) 65 ((lnC id t0 t1 t2 t3 t4 t5 pa pn pc b0 b1 b2 b3 b4 b5 b6 b7 b8 b9 b10 b11 s z k0 k1 k2 k3 k4 k5 k6 k7 k8 k9 k10 k11 k12 d0 d1 d2 l0 l1 l2 l3 l4 y e0 e1)) (W.alloc (.cells #[.int .i64 e0, .int .i64 e1] 2))) := BL.out.below bX
      have BW' : Hid (Below w.heap.size w (W.alloc (.cells #[.int .i64 e0, .int .i64 e1] 2))) := below_trans BW.out bX
      have D0' : Hid (RdB (W.alloc (.cells #[.int .i64 e0, .int .i64 e1] 2)) (.slice sa0 sn0 sc0) (r0)) := D0.out.later bX
      have D1' : Hid (RdB (W.alloc (.cells #[.int .i64 e0, .int .i64 e1] 2)) (.slice sa1 sn1 sc1) (r1)) := D1.out.later bX
      have D2' : Hid (RdB (W.alloc (.cells #[.int .i64 e0, .int .i64 e1] 2)) (.slice sa2 sn2 sc2) (r2)) := D2.out.later bX
      have D3' : Hid (RdB (W.alloc (.cells #[.int .i64 e0, .int .i64 e1] 2)) (.slice sa3 sn3 sc3) (r3)) := D3.out.later bX
      have D4' : Hid (RdB (W.alloc (.cells #[.int .i64 e0, .int .i64 e1] 2)) (.slice sa4 sn4 sc4) (r4)) := D4.out.later bX
      have D5' : Hid (RdB (W.alloc (.cells #[.int .i64 e0, .int .i64 e1] 2)) (.slice sa5 sn5 sc5) (r5)) := D5.out.later bX
      have G0' : Hid (Blk F0 2 [.int .i64 d0, .int .i64 d1, .int .i64 d2] (W.alloc (.cells #[.int .i64 e0, .int .i64 e1] 2))) := G0.out.below bX
      refine hK.out _ _ BL'.out (fun _ => ?_)
      try simp only [List.setIfInBounds_toArray, List.set_cons_zero, List.set_cons_succ]
      exact hG.2 _ _ _ _ (Q6_01 _ _ _ _ _ _ _ _ _ _ _ _ _ _ _ _ _ _ _ _ _ BL' BW' D0' D1' D2' D3' D4' D5' G0' G1')
  have Q5_01 : ∀ (W : World) (sa0 : Option Addr) (sn0 sc0 : Nat) (sa1 : Option Addr) (sn1 sc1 : Nat) (sa2 : Option Addr) (sn2 sc2 : Nat) (sa3 : Option Addr) (sn3 sc3 : Nat) (sa4 : Option Addr) (sn4 sc4 : Nat) (F0 : Nat) (F1 : Nat), Hid (Blk (w.heap.size) 65 ((lnC id t0 t1 t2 t3 t4 t5 pa pn pc b0 b1 b2 b3 b4 b5 b6 b7 b8 b9 b10 b11 s z k0 k1 k2 k3 k4 k5 k6 k7 k8 k9 k10 k11 k12 d0 d1 d2 l0 l1 l2 l3 l4 y e0 e1)) W) → Hid (Below w.heap.size w W) → Hid (RdB W (.slice sa0 sn0 sc0) (r0)) → Hid (RdB W (.slice sa1 sn1 sc1) (r1)) → Hid (RdB W (.slice sa2 sn2 sc2) (r2)) → Hid (RdB W (.slice sa3 sn3 sc3) (r3)) → Hid (RdB W (.slice sa4 sn4 sc4) (r4)) → Hid (Blk F0 2 [.int .i64 d0, .int .i64 d1, .int .i64 d2] W) → Hid (Blk F1 2 [.int .i64 e0, .int .i64 e1] W) → G 7 #[true, true, true, true, true, true, true, true, true, true, true, true, true, true, true, true, true, true, true, true, true, true, true, false, true, true, false, true, true, false, true, true, true, true, true, false, false, false, false] ⟨#[.agg (lnC id t0 t1 t2 t3 t4 t5 pa pn pc b0 b1 b2 b3 b4 b5 b6 b7 b8 b9 b10 b11 s z k0 k1 k2 k3 k4 k5 k6 k7 k8 k9 k10 k11 k12 d0 d1 d2 l0 l1 l2 l3 l4 y e0 e1).toArray, .pointer (some ⟨w.heap.size, 0, none⟩), .slice none 0 0, .pointer (some ⟨w.heap.size, 0, none⟩), .int .i64 id, .slice sa0 sn0 sc0, .pointer (some ⟨w.heap.size, 1, none⟩), .agg ([.int .i64 t0, .int .i64 t1, .int .i64 t2, .int .i64 t3, .int .i64 t4, .int .i64 t5]).toArray, .slice sa1 sn1 sc1, .pointer (some ⟨w.heap.size, 7, none⟩), .slice pa pn pc, .slice sa2 sn2 sc2, .pointer (some ⟨w.heap.size, 8, none⟩), .pointer (some ⟨w.heap.size, 8, none⟩), .slice (some ⟨w.heap.size, 8, none⟩) 12 12, .slice sa3 sn3 sc3, .pointer (some ⟨w.heap.size, 20, none⟩), .agg ([.int .i64 s, .bool z, .int .i64 k0, .int .i64 k1, .int .i64 k2, .int .i64 k3, .int .i64 k4, .int .i64 k5, .int .i64 k6, .int .i64 k7, .int .i64 k8, .int .i64 k9, .int .i64 k10, .int .i64 k11, .int .i64 k12]).toArray, .slice sa4 sn4 sc4, .pointer (some ⟨w.heap.size, 35, none⟩), .int .i64 d0, .pointer (some ⟨w.heap.size, 36, none⟩), .int .i64 d1, .pointer (some ⟨w.heap.size, 37, none⟩), .int .i64 d2, .slice (some ⟨F0, 0, none⟩) 3 3, undef, .pointer (some ⟨w.heap.size, 38, none⟩), .agg ([.int .i64 l0, .int .i64 l1, .int .i64 l2, .int .i64 l3, .int .i64 l4]).toArray, undef, .pointer (some ⟨w.heap.size, 43, none⟩), .bool y, undef, .pointer (some ⟨w.heap.size, 44, none⟩), .int .i64 e0, .pointer (some ⟨w.heap.size, 45, none⟩), .int .i64 e1, .slice (some ⟨F1, 0, none⟩) 2 2, undef, undef, undef], []⟩ W := by
    intro W sa0 sn0 sc0 sa1 sn1 sc1 sa2 sn2 sc2 sa3 sn3 sc3 sa4 sn4 sc4 F0 F1 BL BW D0 D1 D2 D3 D4 G0 G1
    refine hG.1 _ _ _ _ ?_
    refine wpAnyH_ready (rs := [23]) (by kernel_rfl) (by simp) ?_
    refine AllReadyH.cons (o := { dst := some 26, op := Op.call { callee := Callee.value (Operand.func 39), args := #[Operand.tmp 25], argTypes := #[110] }, type := 33, pos := "encode.go:65", after := #[{ on := 22, ground := Ground.data }, { on := 15, ground := Ground.chain }], guard := none }) rfl (fun K hK => ?_) AllReadyH.nil
    go_simp
    refine (C5.out W F0 G0.out).mono ?_
    rintro e W2 ⟨v, rfl, rv, bX⟩
    obtain ⟨sa5, sc5, ev, -, -⟩ := (RowV.rd rv).len
    generalize ((r5).map bv).length = sn5 at ev
    subst ev
    have BL' : Hid (Blk (w.heap.size) 65 ((lnC id t0 t1 t2 t3 t4 t5 pa pn pc b0 b1 b2 b3 b4 b5 b6 b7 b8 b9 b10 b11 s z k0 k1 k2 k3 k4 k5 k6 k7 k8 k9 k10 k11 k12 d0 d1 d2 l0 l1 l2 l3 l4 y e0 e1)) W2) := BL.out.below bX
    have BW' : Hid (Below w.heap.size w W2) := below_trans BW.out bX
    have D0' : Hid (RdB W2 (.slice sa0 sn0 sc0) (r0)) := D0.out.later bX
    have D1' : Hid (RdB W2 (.slice sa1 sn1 sc1) (r1)) := D1.out.later bX
    have D2' : Hid (RdB W2 (.slice sa2 sn2 sc2) (r2)) := D2.out.later bX
    have D3' : Hid (RdB W2 (.slice sa3 sn3 sc3) (r3)) := D3.out.later bX
    have D4' : Hid (RdB W2 (.slice sa4 sn4 sc4) (r4)) := D4.out.later bX
    have D5' : Hid (RdB W2 (.slice sa5 sn5 sc5) (r5)) := RowV.rd rv
    have G0' : Hid (Blk F0 2 [.int .i64 d0, .int .i64 d1, .int .i64 d2] W2) := G0.out.below bX
    have G1' : Hid (Blk F1 2 [.int .i64 e0, .int .i64 e1] W2) := G1.out.below bX
    refine hK.out _ _ BL'.out (fun _ => ?_)
    try simp only [List.setIfInBounds_toArray, List.set_cons_zero, List.set_cons_succ]
    exact hG.2 _ _ _ _ (Q6_01 W2 _ _ _ _ _ _ _ _ _ _ _ _ _ _ _ _ _ _ _ _ BL' BW' D0' D1' D2' D3' D4' D5' G0' G1')
  have Q5_0 : ∀ (W : World) (sa0 : Option Addr) (sn0 sc0 : Nat) (sa1 : Option Addr) (sn1 sc1 : Nat) (sa2 : Option Addr) (sn2 sc2 : Nat) (sa3 : Option Addr) (sn3 sc3 : Nat) (sa4 : Option Addr) (sn4 sc4 : Nat) (F0 : Nat), Hid (Blk (w.heap.size) 65 ((lnC id t0 t1 t2 t3 t4 t5 pa pn pc b0 b1 b2 b3 b4 b5 b6 b7 b8 b9 b10 b11 s z k0 k1 k2 k3 k4 k5 k6 k7 k8 k9 k10 k11 k12 d0 d1 d2 l0 l1 l2 l3 l4 y e0 e1)) W) → Hid (Below w.heap.size w W) → Hid (RdB W (.slice sa0 sn0 sc0) (r0)) → Hid (RdB W (.slice sa1 sn1 sc1) (r1)) → Hid (RdB W (.slice sa2 sn2 sc2) (r2)) → Hid (RdB W (.slice sa3 sn3 sc3) (r3)) → Hid (RdB W (.slice sa4 sn4 sc4) (r4)) → Hid (Blk F0 2 [.int .i64 d0, .int .i64 d1, .int .i64 d2] W) → G 8 #[true, true, true, true, true, true, true, true, true, true, true, true, true, true, true, true, true, true, true, true, true, true, true, false, true, true, false, true, true, false, true, true, true, true, false, false, false, false, false] ⟨#[.agg (lnC id t0 t1 t2 t3 t4 t5 pa pn pc b0 b1 b2 b3 b4 b5 b6 b7 b8 b9 b10 b11 s z k0 k1 k2 k3 k4 k5 k6 k7 k8 k9 k10 k11 k12 d0 d1 d2 l0 l1 l2 l3 l4 y e0 e1).toArray, .pointer (some ⟨w.heap.size, 0, none⟩), .slice none 0 0, .pointer (some ⟨w.heap.size, 0, none⟩), .int .i64 id, .slice sa0 sn0 sc0, .pointer (some ⟨w.heap.size, 1, none⟩), .agg ([.int .i64 t0, .int .i64 t1, .int .i64 t2, .int .i64 t3, .int .i64 t4, .int .i64 t5]).toArray, .slice sa1 sn1 sc1, .pointer (some ⟨w.heap.size, 7, none⟩), .slice pa pn pc, .slice sa2 sn2 sc2, .pointer (some ⟨w.heap.size, 8, none⟩), .pointer (some ⟨w.heap.size, 8, none⟩), .slice (some ⟨w.heap.size, 8, none⟩) 12 12, .slice sa3 sn3 sc3, .pointer (some ⟨w.heap.size, 20, none⟩), .agg ([.int .i64 s, .bool z, .int .i64 k0, .int .i64 k1, .int .i64 k2, .int .i64 k3, .int .i64 k4, .int .i64 k5, .int .i64 k6, .int .i64 k7, .int .i64 k8, .int .i64 k9, .int .i64 k10, .int .i64 k11, .int .i64 k12]).toArray, .slice sa4 sn4 sc4, .pointer (some ⟨w.heap.size, 35, none⟩), .int .i64 d0, .pointer (some ⟨w.heap.size, 36, none⟩), .int .i64 d1, .pointer (some ⟨w.heap.size, 37, none⟩), .int .i64 d2, .slice (some ⟨F0, 0, none⟩) 3 3, undef, .pointer (some ⟨w.heap.size, 38, none⟩), .agg ([.int .i64 l0, .int .i64 l1, .int .i64 l2, .int .i64 l3, .int .i64 l4]).toArray, undef, .pointer (some ⟨w.heap.size, 43, none⟩), .bool y, undef, .pointer (some ⟨w.heap.size, 44, none⟩), .int .i64 e0, .pointer (some ⟨w.heap.size, 45, none⟩), .int .i64 e1, undef, undef, undef, undef], []⟩ W := by
    intro W sa0 sn0 sc0 sa1 sn1 sc1 sa2 sn2 sc2 sa3 sn3 sc3 sa4 sn4 sc4 F0 BL BW D0 D1 D2 D3 D4 G0
    refine hG.1 _ _ _ _ ?_
    refine wpAnyH_ready (rs := [23, 34]) (by kernel_rfl) (by simp) ?_
    refine AllReadyH.cons (o := { dst := some 26, op := Op.call { callee := Callee.value (Operand.func 39), args := #[Operand.tmp 25], argTypes := #[110] }, type := 33, pos := "encode.go:65", after := #[{ on := 22, ground := Ground.data }, { on := 15, ground := Ground.chain }], guard := none }) rfl (fun K hK => ?_) (AllReadyH.cons (o := { dst := some 37, op := Op.buildSlice 110 2 #[(0, Operand.tmp 34), (1, Operand.tmp 36)], type := 110, pos := "encode.go:59", after := #[{ on := 31, ground := Ground.data }, { on := 33, ground := Ground.data }], guard := none }) rfl (fun K hK => ?_) AllReadyH.nil)
    · go_simp
      refine (C5.out W F0 G0.out).mono ?_
      rintro e W2 ⟨v, rfl, rv, bX⟩
      obtain ⟨sa5, sc5, ev, -, -⟩ := (RowV.rd rv).len
      generalize ((r5).map bv).length = sn5 at ev
      subst ev
      have BL' : Hid (Blk (w.heap.size) 65 ((lnC id t0 t1 t2 t3 t4 t5 pa pn pc b0 b1 b2 b3 b4 b5 b6 b7 b8 b9 b10 b11 s z k0 k1 k2 k3 k4 k5 k6 k7 k8 k9 k10 k11 k12 d0 d1 d2 l0 l1 l2 l3 l4 y e0 e1)) W2) := BL.out.below bX
      have BW' : Hid (Below w.heap.size w W2) := below_trans BW.out bX
      have D0' : Hid (RdB W2 (.slice sa0 sn0 sc0) (r0)) := D0.out.later bX
      have D1' : Hid (RdB W2 (.slice sa1 sn1 sc1) (r1)) := D1.out.later bX
      have D2' : Hid (RdB W2 (.slice sa2 sn2 sc2) (r2)) := D2.out.later bX
      have D3' : Hid (RdB W2 (.slice sa3 sn3 sc3) (r3)) := D3.out.later bX
      have D4' : Hid (RdB W2 (.slice sa4 sn4 sc4) (r4)) := D4.out.later bX
      have D5' : Hid (RdB W2 (.slice sa5 sn5 sc5) (r5)) := RowV.rd rv
      have G0' : Hid (Blk F0 2 [.int .i64 d0, .int .i64 d1, .int .i64 d2] W2) := G0.out.below bX
      refine hK.out _ _ BL'.out (fun _ => ?_)
      try simp only [List.setIfInBounds_toArray, List.set_cons_zero, List.set_cons_succ]
      exact hG.2 _ _ _ _ (Q6_0 W2 _ _ _ _ _ _ _ _ _ _ _ _ _ _ _ _ _ _ _ BL' BW' D0' D1' D2' D3' D4' D5' G0')
    · go_simp
      have bX := below_alloc W (.cells #[.int .i64 e0, .int .i64 e1] 2)
      have G1' : Hid (Blk W.heap.size 2 [.int .i64 e0, .int .i64 e1] (W.alloc (.cells #[.int .i64 e0, .int .i64 e1] 2))) := Blk.new _ _ _
      have BL' : Hid (Blk (w.heap.size) 65 ((lnC id t0 t1 t2 t3 t4 t5 pa pn pc b0 b1 b2 b3 b4 b5 b6 b7 b8 b9 b10 b11 s z k0 k1 k2 k3 k4 k5 k6 k7 k8 k9 k10 k11 k12 d0 d1 d2 l0 l1 l2 l3 l4 y e0 e1)) (W.alloc (.cells #[.int .i64 e0, .int .i64 e1] 2))) := BL.out.below bX
      have BW' : Hid (Below w.heap.size w (W.alloc (.cells #[.int .i64 e0, .int .i64 e1] 2))) := below_trans BW.out bX
      have D0' : Hid (RdB (W.alloc (.cells #[.int .i64 e0, .int .i64 e1] 2)) (.slice sa0 sn0 sc0) (r0)) := D0.out.later bX
      have D1' : Hid (RdB (W.alloc (.cells #[.int .i64 e0, .int .i64 e1] 2)) (.slice sa1 sn1 sc1) (r1)) := D1.out.later bX
      have D2' : Hid (RdB (W.alloc (.cells #[.int .i64 e0, .int .i64 e1] 2)) (.slice sa2 sn2 sc2) (r2)) := D2.out.later bX
      have D3' : Hid (RdB (W.alloc (.cells #[.int .i64 e0, .int .i64 e1] 2)) (.slice sa3 sn3 sc3) (r3)) := D3.out.later bX
      have D4' : Hid (RdB (W.alloc (.cells #[.int .i64 e0, .int .i64 e1] 2)) (.slice sa4 sn4 sc4) (r4)) := D4.out.later bX
      have G0' : Hid (Blk F0 2 [.int .i64 d0, .int .i64 d1, .int .i64 d2] (W.alloc (.cells #[.int .i64 e0, .int .i64 e1] 2))) := G0.out.below bX
      refine hK.out _ _ BL'.out (fun _ => ?_)
      try simp only [List.setIfInBounds_toArray, List.set_cons_zero, List.set_cons_succ]
      exact hG.2 _ _ _ _ (Q5_01 _ _ _ _ _ _ _ _ _ _ _ _ _ _ _ _ _ _ BL' BW' D0' D1' D2' D3' D4' G0' G1')
  have Q5_1 : ∀ (W : World) (sa0 : Option Addr) (sn0 sc0 : Nat) (sa1 : Option Addr) (sn1 sc1 : Nat) (sa2 : Option Addr) (sn2 sc2 : Nat) (sa3 : Option Addr) (sn3 sc3 : Nat) (sa4 : Option Addr) (sn4 sc4 : Nat) (F1 : Nat), Hid (Blk (w.heap.size) 65 ((lnC id t0 t1 t2 t3 t4 t5 pa pn pc b0 b1 b2 b3 b4 b5 b6 b7 b8 b9 b10 b11 s z k0 k1 k2 k3 k4 k5 k6 k7 k8 k9 k10 k11 k12 d0 d1 d2 l0 l1 l2 l3 l4 y e0 e1)) W) → Hid (Below w.heap.size w W) → Hid (RdB W (.slice sa0 sn0 sc0) (r0)) → Hid (RdB W (.slice sa1 sn1 sc1) (r1)) → Hid (RdB W (.slice sa2 sn2 sc2) (r2)) → Hid (RdB W (.slice sa3 sn3 sc3) (r3)) → Hid (RdB W (.slice sa4 sn4 sc4) (r4)) → Hid (Blk F1 2 [.int .i64 e0, .int .i64 e1] W) → G 8 #[true, true, true, true, true, true, true, true, true, true, true, true, true, true, true, true, true, true, true, true, true, true, false, false, true, true, false, true, true, false, true, true, true, true, true, false, false, false, false] ⟨#[.agg (lnC id t0 t1 t2 t3 t4 t5 pa pn pc b0 b1 b2 b3 b4 b5 b6 b7 b8 b9 b10 b11 s z k0 k1 k2 k3 k4 k5 k6 k7 k8 k9 k10 k11 k12 d0 d1 d2 l0 l1 l2 l3 l4 y e0 e1).toArray, .pointer (some ⟨w.heap.size, 0, none⟩), .slice none 0 0, .pointer (some ⟨w.heap.size, 0, none⟩), .int .i64 id, .slice sa0 sn0 sc0, .pointer (some ⟨w.heap.size, 1, none⟩), .agg ([.int .i64 t0, .int .i64 t1, .int .i64 t2, .int .i64 t3, .int .i64 t4, .int .i64 t5]).toArray, .slice sa1 sn1 sc1, .pointer (some ⟨w.heap.size, 7, none⟩), .slice pa pn pc, .slice sa2 sn2 sc2, .pointer (some ⟨w.heap.size, 8, none⟩), .pointer (some ⟨w.heap.size, 8, none⟩), .slice (some ⟨w.heap.size, 8, none⟩) 12 12, .slice sa3 sn3 sc3, .pointer (some ⟨w.heap.size, 20, none⟩), .agg ([.int .i64 s, .bool z, .int .i64 k0, .int .i64 k1, .int .i64 k2, .int .i64 k3, .int .i64 k4, .int .i64 k5, .int .i64 k6, .int .i64 k7, .int .i64 k8, .int .i64 k9, .int .i64 k10, .int .i64 k11, .int .i64 k12]).toArray, .slice sa4 sn4 sc4, .pointer (some ⟨w.heap.size, 35, none⟩), .int .i64 d0, .pointer (some ⟨w.heap.size, 36, none⟩), .int .i64 d1, .pointer (some ⟨w.heap.size, 37, none⟩), .int .i64 d2, undef, undef, .pointer (some ⟨w.heap.size, 38, none⟩), .agg ([.int .i64 l0, .int .i64 l1, .int .i64 l2, .int .i64 l3, .int .i64 l4]).toArray, undef, .pointer (some ⟨w.heap.size, 43, none⟩), .bool y, undef, .pointer (some ⟨w.heap.size, 44, none⟩), .int .i64 e0, .pointer (some ⟨w.heap.size, 45, none⟩), .int .i64 e1, .slice (some ⟨F1, 0, none⟩) 2 2, undef, undef, undef], []⟩ W := by
    intro W sa0 sn0 sc0 sa1 sn1 sc1 sa2 sn2 sc2 sa3 sn3 sc3 sa4 sn4 sc4 F1 BL BW D0 D1 D2 D3 D4 G1
    refine hG.1 _ _ _ _ ?_
    refine wpAnyH_ready (rs := [22]) (by kernel_rfl) (by simp) ?_
    refine AllReadyH.cons (o := { dst := some 25, op := Op.buildSlice 110 3 #[(0, Operand.tmp 20), (1, Operand.tmp 22), (2, Operand.tmp 24)], type := 110, pos := "encode.go:59", after := #[{ on := 17, ground := Ground.data }, { on := 19, ground := Ground.data }, { on := 21, ground := Ground.data }], guard := none }) rfl (fun K hK => ?_) AllReadyH.nil
    go_simp
    have bX := below_alloc W (.cells #[.int .i64 d0, .int .i64 d1, .int .i64 d2] 2)
    have G0' : Hid (Blk W.heap.size 2 [.int .i64 d0, .int .i64 d1, .int .i64 d2] (W.alloc (.cells #[.int .i64 d0, .int .i64 d1, .int .i64 d2] 2))) := Blk.new _ _ _
    have BL' : Hid (Blk (w.heap.size) 65 ((lnC id t0 t1 t2 t3 t4 t5 pa pn pc b0 b1 b2 b3 b4 b5 b6 b7 b8 b9 b10 b11 s z k0 k1 k2 k3 k4 k5 k6 k7 k8 k9 k10 k11 k12 d0 d1 d2 l0 l1 l2 l3 l4 y e0 e1)) (W.alloc (.cells #[.int .i64 d0, .int .i64 d1, .int .i64 d2] 2))) := BL.out.below bX
    have BW' : Hid (Below w.heap.size w (W.alloc (.cells #[.int .i64 d0, .int .i64 d1, .int .i64 d2] 2))) := below_trans BW.out bX
    have D0' : Hid (RdB (W.alloc (.cells #[.int .i64 d0, .int .i64 d1, .int .i64 d2] 2)) (.slice sa0 sn0 sc0) (r0)) := D0.out.later bX
    have D1' : Hid (RdB (W.alloc (.cells #[.int .i64 d0, .int .i64 d1, .int .i64 d2] 2)) (.slice sa1 sn1 sc1) (r1)) := D1.out.later bX
    have D2' : Hid (RdB (W.alloc (.cells #[.int .i64 d0, .int .i64 d1, .int .i64 d2] 2)) (.slice sa2 sn2 sc2) (r2)) := D2.out.later bX
    have D3' : Hid (RdB (W.alloc (.cells #[.int .i64 d0, .int .i64 d1, .int .i64 d2] 2)) (.slice sa3 sn3 sc3) (r3)) := D3.out.later bX
    have D4' : Hid (RdB (W.alloc (.cells #[.int .i64 d0, .int .i64 d1, .int .i64 d2] 2)) (.slice sa4 sn4 sc4) (r4)) := D4.out.later bX
    have G1' : Hid (Blk F1 2 [.int .i64 e0, .int .i64 e1] (W.alloc (.cells #[.int .i64 d0, .int .i64 d1, .int .i64 d2] 2))) := G1.out.below bX
    refine hK.out _ _ BL'.out (fun _ => ?_)
    try simp only [List.setIfInBounds_toArray, List.set_cons_zero, List.set_cons_succ]
    exact hG.2 _ _ _ _ (Q5_01 _ _ _ _ _ _ _ _ _ _ _ _ _ _ _ _ _ _ BL' BW' D0' D1' D2' D3' D4' G0' G1')
  have Q5_ : ∀ (W : World) (sa0 : Option Addr) (sn0 sc0 : Nat) (sa1 : Option Addr) (sn1 sc1 : Nat) (sa2 : Option Addr) (sn2 sc2 : Nat) (sa3 : Option Addr) (sn3 sc3 : Nat) (sa4 : Option Addr) (sn4 sc4 : Nat), Hid (Blk (w.heap.size) 65 ((lnC id t0 t1 t2 t3 t4 t5 pa pn pc b0 b1 b2 b3 b4 b5 b6 b7 b8 b9 b10 b11 s z k0 k1 k2 k3 k4 k5 k6 k7 k8 k9 k10 k11 k12 d0 d1 d2 l0 l1 l2 l3 l4 y e0 e1)) W) → Hid (Below w.heap.size w W) → Hid (RdB W (.slice sa0 sn0 sc0) (r0)) → Hid (RdB W (.slice sa1 sn1 sc1) (r1)) → Hid (RdB W (.slice sa2 sn2 sc2) (r2)) → Hid (RdB W (.slice sa3 sn3 sc3) (r3)) → Hid (RdB W (.slice sa4 sn4 sc4) (r4)) → G 9 #[true, true, true, true, true, true, true, true, true, true, true, true, true, true, true, true, true, true, true, true, true, true, false, false, true, true, false, true, true, false, true, true, true, true, false, false, false, false, false] ⟨#[.agg (lnC id t0 t1 t2 t3 t4 t5 pa pn pc b0 b1 b2 b3 b4 b5 b6 b7 b8 b9 b10 b11 s z k0 k1 k2 k3 k4 k5 k6 k7 k8 k9 k10 k11 k12 d0 d1 d2 l0 l1 l2 l3 l4 y e0 e1).toArray, .pointer (some ⟨w.heap.size, 0, none⟩), .slice none 0 0, .pointer (some ⟨w.heap.size, 0, none⟩), .int .i64 id, .slice sa0 sn0 sc0, .pointer (some ⟨w.heap.size, 1, none⟩), .agg ([.int .i64 t0, .int .i64 t1, .int .i64 t2, .int .i64 t3, .int .i64 t4, .int .i64 t5]).toArray, .slice sa1 sn1 sc1, .pointer (some ⟨w.heap.size, 7, none⟩), .slice pa pn pc, .slice sa2 sn2 sc2, .pointer (some ⟨w.heap.size, 8, none⟩), .pointer (some ⟨w.heap.size, 8, none⟩), .slice (some ⟨w.heap.size, 8, none⟩) 12 12, .slice sa3 sn3 sc3, .pointer (some ⟨w.heap.size, 20, none⟩), .agg ([.int .i64 s, .bool z, .int .i64 k0, .int .i64 k1, .int .i64 k2, .int .i64 k3, .int .i64 k4, .int .i64 k5, .int .i64 k6, .int .i64 k7, .int .i64 k8, .int .i64 k9, .int .i64 k10, .int .i64 k11, .int .i64 k12]).toArray, .slice sa4 sn4 sc4, .pointer (some ⟨w.heap.size, 35, none⟩), .int .i64 d0, .pointer (some ⟨w.heap.size, 36, none⟩), .int .i64 d1, .pointer (some ⟨w.heap.size, 37, none⟩), .int .i64 d2, undef, undef, .pointer (some ⟨w.heap.size, 38, none⟩), .agg ([.int .i64 l0, .int .i64 l1, .int .i64 l2, .int .i64 l3, .int .i64 l4]).toArray, undef, .pointer (some ⟨w.heap.size, 43, none⟩), .bool y, undef, .pointer (some ⟨w.heap.size, 44, none⟩), .int .i64 e0, .pointer (some ⟨w.heap.size, 45, none⟩), .int .i64 e1, undef, undef, undef, undef], []⟩ W := by
    intro W sa0 sn0 sc0 sa1 sn1 sc1 sa2 sn2 sc2 sa3 sn3 sc3 sa4 sn4 sc4 BL BW D0 D1 D2 D3 D4
    refine hG.1 _ _ _ _ ?_
    refine wpAnyH_ready (rs := [22, 34]) (by kernel_rfl) (by simp) ?_
    refine AllReadyH.cons (o := { dst := some 25, op := Op.buildSlice 110 3 #[(0, Operand.tmp 20), (1, Operand.tmp 22), (2, Operand.tmp 24)], type := 110, pos := "encode.go:59", after := #[{ on := 17, ground := Ground.data }, { on := 19, ground := Ground.data }, { on := 21, ground := Ground.data }], guard := none }) rfl (fun K hK => ?_) (AllReadyH.cons (o := { dst := some 37, op := Op.buildSlice 110 2 #[(0, Operand.tmp 34), (1, Operand.tmp 36)], type := 110, pos := "encode.go:59", after := #[{ on := 31, ground := Ground.data }, { on := 33, ground := Ground.data }], guard := none }) rfl (fun K hK => ?_) AllReadyH.nil)
    · go_simp
      have bX := below_alloc W (.cells #[.int .i64 d0, .int .i64 d1, .int .i64 d2] 2)
      have G0' : Hid (Blk W.heap.size 2 [.int .i64 d0, .int .i64 d1, .int .i64 d2] (W.alloc (.cells #[.int .i64 d0, .int .i64 d1, .int .i64 d2] 2))) := Blk.new _ _ _
      have BL' : Hid (Blk (w.heap.size) 65 ((lnC id t0 t1 t2 t3 t4 t5 pa pn pc b0 b1 b2 b3 b4 b5 b6 b7 b8 b9 b10 b11 s z k0 k1 k2 k3 k4 k5 k6 k7 k8 k9 k10 k11 k12 d0 d1 d2 l0 l1 l2 l3 l4 y e0 e1)) (W.alloc (.cells #[.int .i64 d0, .int .i64 d1, .int .i64 d2] 2))) := BL.out.below bX
      have BW' : Hid (Below w.heap.size w (W.alloc (.cells #[.int .i64 d0, .int .i64 d1, .int .i64 d2] 2))) := below_trans BW.out bX
      have D0' : Hid (RdB (W.alloc (.cells #[.int .i64 d0, .int .i64 d1, .int .i64 d2] 2)) (.slice sa0 sn0 sc0) (r0)) := D0.out.later bX
      have D1' : Hid (RdB (W.alloc (.cells #[.int .i64 d0, .int .i64 d1, .int .i64 d2] 2)) (.slice sa1 sn1 sc1) (r1)) := D1.out.later bX
      have D2' : Hid (RdB (W.alloc (.cells #[.int .i64 d0, .int .i64 d1, .int .i64 d2] 2)) (.slice sa2 sn2 sc2) (r2)) := D2.out.later bX
      have D3' : Hid (RdB (W.alloc (.cells #[.int .i64 d0, .int .i64 d1, .int .i64 d2] 2)) (.slice sa3 sn3 sc3) (r3)) := D3.out.later bX
      have D4' : Hid (RdB (W.alloc (.cells #[.int .i64 d0, .int .i64 d1, .int .i64 d2] 2)) (.slice sa4 sn4 sc4) (r4)) := D4.out.later bX
      refine hK.out _ _ BL'.out (fun _ => ?_)
      try simp only [List.setIfInBounds_toArray, List.set_cons_zero, List.set_cons_succ]
      exact hG.2 _ _ _ _ (Q5_0 _ _ _ _ _ _ _ _ _ _ _ _ _ _ _ _ _ BL' BW' D0' D1' D2' D3' D4' G0')
    · go_simp
      have bX := below_alloc W (.cells #[.int .i64 e0, .int .i64 e1] 2)
      have G1' : Hid (Blk W.heap.size 2 [.int .i64 e0, .int .i64 e1] (W.alloc (.cells #[.int .i64 e0, .int .i64 e1] 2))) := Blk.new _ _ _
      have BL' : Hid (Blk (w.heap.size) 65 ((lnC id t0 t1 t2 t3 t4 t5 pa pn pc b0 b1 b2 b3 b4 b5 b6 b7 b8 b9 b10 b11 s z k0 k1 k2 k3 k4 k5 k6 k7 k8 k9 k10 k11 k12 d0 d1 d2 l0 l1 l2 l3 l4 y e0 e1)) (W.alloc (.cells #[.int .i64 e0, .int .i64 e1] 2))) := BL.out.below bX
      have BW' : Hid (Below w.heap.size w (W.alloc (.cells #[.int .i64 e0, .int .i64 e1] 2))) := below_trans BW.out bX
      have D0' : Hid (RdB (W.alloc (.cells #[.int .i64 e0, .int .i64 e1] 2)) (.slice sa0 sn0 sc0) (r0)) := D0.out.later bX
      have D1' : Hid (RdB (W.alloc (.cells #[.int .i64 e0, .int .i64 e1] 2)) (.slice sa1 sn1 sc1) (r1)) := D1.out.later bX
      have D2' : Hid (RdB (W.alloc (.cells #[.int .i64 e0, .int .i64 e1] 2)) (.slice sa2 sn2 sc2) (r2)) := D2.out.later bX
      have D3' : Hid (RdB (W.alloc (.cells #[.int .i64 e0, .int .i64 e1] 2)) (.slice sa3 sn3 sc3) (r3)) := D3.out.later bX
      have D4' : Hid (RdB (W.alloc (.cells #[.int .i64 e0, .int .i64 e1] 2)) (.slice sa4 sn4 sc4) (r4)) := D4.out.later bX
      refine hK.out _ _ BL'.out (fun _ => ?_)
      try simp only [List.setIfInBounds_toArray, List.set_cons_zero, List.set_cons_succ]
      exact hG.2 _ _ _ _ (Q5_1 _ _ _ _ _ _ _ _ _ _ _ _ _ _ _ _ _ BL' BW' D0' D1' D2' D3' D4' G1')
  have Q4_01 : ∀ (W : World) (sa0 : Option Addr) (sn0 sc0 : Nat) (sa1 : Option Addr) (sn1 sc1 : Nat) (sa2 : Option Addr) (sn2 sc2 : Nat) (sa3 : Option Addr) (sn3 sc3 : Nat) (F0 : Nat) (F1 : Nat), Hid (Blk (w.heap.size) 65 ((lnC id t0 t1 t2 t3 t4 t5 pa pn pc b0 b1 b2 b3 b4 b5 b6 b7 b8 b9 b10 b11 s z k0 k1 k2 k3 k4 k5 k6 k7 k8 k9 k10 k11 k12 d0 d1 d2 l0 l1 l2 l3 l4 y e0 e1)) W) → Hid (Below w.heap.size w W) → Hid (RdB W (.slice sa0 sn0 sc0) (r0)) → Hid (RdB W (.slice sa1 sn1 sc1) (r1)) → Hid (RdB W (.slice sa2 sn2 sc2) (r2)) → Hid (RdB W (.slice sa3 sn3 sc3) (r3)) → Hid (Blk F0 2 [.int .i64 d0, .int .i64 d1, .int .i64 d2] W) → Hid (Blk F1 2 [.int .i64 e0, .int .i64 e1] W) → G 8 #[true, true, true, true, true, true, true, true, true, true, true, true, true, true, true, false, true, true, true, true, true, true, true, false, true, true, false, true, true, false, true, true, true, true, true, false, false, false, false] ⟨#[.agg (lnC id t0 t1 t2 t3 t4 t5 pa pn pc b0 b1 b2 b3 b4 b5 b6 b7 b8 b9 b10 b11 s z k0 k1 k2 k3 k4 k5 k6 k7 k8 k9 k10 k11 k12 d0 d1 d2 l0 l1 l2 l3 l4 y e0 e1).toArray, .pointer (some ⟨w.heap.size, 0, none⟩), .slice none 0 0, .pointer (some ⟨w.heap.size, 0, none⟩), .int .i64 id, .slice sa0 sn0 sc0, .pointer (some ⟨w.heap.size, 1, none⟩), .agg ([.int .i64 t0, .int .i64 t1, .int .i64 t2, .int .i64 t3, .int .i64 t4, .int .i64 t5]).toArray, .slice sa1 sn1 sc1, .pointer (some ⟨w.heap.size, 7, none⟩), .slice pa pn pc, .slice sa2 sn2 sc2, .pointer (some ⟨w.heap.size, 8, none⟩), .pointer (some ⟨w.heap.size, 8, none⟩), .slice (some ⟨w.heap.size, 8, none⟩) 12 12, .slice sa3 sn3 sc3, .pointer (some ⟨w.heap.size, 20, none⟩), .agg ([.int .i64 s, .bool z, .int .i64 k0, .int .i64 k1, .int .i64 k2, .int .i64 k3, .int .i64 k4, .int .i64 k5, .int .i64 k6, .int .i64 k7, .int .i64 k8, .int .i64 k9, .int .i64 k10, .int .i64 k11, .int .i64 k12]).toArray, undef, .pointer (some ⟨w.heap.size, 35, none⟩), .int .i64 d0, .pointer (some ⟨w.heap.size, 36, none⟩), .int .i64 d1, .pointer (some ⟨w.heap.size, 37, none⟩), .int .i64 d2, .slice (some ⟨F0, 0, none⟩) 3 3, undef, .pointer (some ⟨w.heap.size, 38, none⟩), .agg ([.int .i64 l0, .int .i64 l1, .int .i64 l2, .int .i64 l3, .int .i64 l4]).toArray, undef, .pointer (some ⟨w.heap.size, 43, none⟩), .bool y, undef, .pointer (some ⟨w.heap.size, 44, none⟩), .int .i64 e0, .pointer (some ⟨w.heap.size, 45, none⟩), .int .i64 e1, .slice (some ⟨F1, 0, none⟩) 2 2, undef, undef, undef], []⟩ W := by
    intro W sa0 sn0 sc0 sa1 sn1 sc1 sa2 sn2 sc2 sa3 sn3 sc3 F0 F1 BL BW D0 D1 D2 D3 G0 G1
    refine hG.1 _ _ _ _ ?_
    refine wpAnyH_ready (rs := [15]) (by kernel_rfl) (by simp) ?_
    refine AllReadyH.cons (o := { dst := some 18, op := Op.call { callee := Callee.value (Operand.func 58), args := #[Operand.tmp 17], argTypes := #[61] }, type := 33, pos := "encode.go:64", after := #[{ on := 14, ground := Ground.data }, { on := 12, ground := Ground.chain }], guard := none }) rfl (fun K hK => ?_) AllReadyH.nil
    go_simp
    refine (C4.out W).mono ?_
    rintro e W2 ⟨v, rfl, rv, bX⟩
    obtain ⟨sa4, sc4, ev, -, -⟩ := (RowV.rd rv).len
    generalize ((r4).map bv).length = sn4 at ev
    subst ev
    have BL' : Hid (Blk (w.heap.size) 65 ((lnC id t0 t1 t2 t3 t4 t5 pa pn pc b0 b1 b2 b3 b4 b5 b6 b7 b8 b9 b10 b11 s z k0 k1 k2 k3 k4 k5 k6 k7 k8 k9 k10 k11 k12 d0 d1 d2 l0 l1 l2 l3 l4 y e0 e1)) W2) := BL.out.below bX
    have BW' : Hid (Below w.heap.size w W2) := below_trans BW.out bX
    have D0' : Hid (RdB W2 (.slice sa0 sn0 sc0) (r0)) := D0.out.later bX
    have D1' : Hid (RdB W2 (.slice sa1 sn1 sc1) (r1)) := D1.out.later bX
    have D2' : Hid (RdB W2 (.slice sa2 sn2 sc2) (r2)) := D2.out.later bX
    have D3' : Hid (RdB W2 (.slice sa3 sn3 sc3) (r3)) := D3.out.later bX
    have D4' : Hid (RdB W2 (.slice sa4 sn4 sc4) (r4)) := RowV.rd rv
    have G0' : Hid (Blk F0 2 [.int .i64 d0, .int .i64 d1, .int .i64 d2] W2) := G0.out.below bX
    have G1' : Hid (Blk F1 2 [.int .i64 e0, .int .i64 e1] W2) := G1.out.below bX
    refine hK.out _ _ BL'.out (fun _ => ?_)
    try simp only [List.setIfInBounds_toArray, List.set_cons_zero, List.set_cons_succ]
    exact hG.2 _ _ _ _ (Q5_01 W2 _ _ _ _ _ _ _ _ _ _ _ _ _ _ _ _ _ BL' BW' D0' D1' D2' D3' D4' G0' G1')
  have Q4_0 : ∀ (W : World) (sa0 : Option Addr) (sn0 sc0 : Nat) (sa1 : Option Addr) (sn1 sc1 : Nat) (sa2 : Option Addr) (sn2 sc2 : Nat) (sa3 : Option Addr) (sn3 sc3 : Nat) (F0 : Nat), Hid (Blk (w.heap.size) 65 ((lnC id t0 t1 t2 t3 t4 t5 pa pn pc b0 b1 b2 b3 b4 b5 b6 b7 b8 b9 b10 b11 s z k0 k1 k2 k3 k4 k5 k6 k7 k8 k9 k10 k11 k12 d0 d1 d2 l0 l1 l2 l3 l4 y e0 e1)) W) → Hid (Below w.heap.size w W) → Hid (RdB W (.slice sa0 sn0 sc0) (r0)) → Hid (RdB W (.slice sa1 sn1 sc1) (r1)) → Hid (RdB W (.slice sa2 sn2 sc2) (r2)) → Hid (RdB W (.slice sa3 sn3 sc3) (r3)) → Hid (Blk F0 2 [.int .i64 d0, .int .i64 d1, .int .i64 d2] W) → G 9 #[true, true, true, true, true, true, true, true, true, true, true, true, true, true, true, false, true, true, true, true, true, true, true, false, true, true, false, true, true, false, true, true, true, true, false, false, false, false, false] ⟨#[.agg (lnC id t0 t1 t2 t3 t4 t5 pa pn pc b0 b1 b2 b3 b4 b5 b6 b7 b8 b9 b10 b11 s z k0 k1 k2 k3 k4 k5 k6 k7 k8 k9 k10 k11 k12 d0 d1 d2 l0 l1 l2 l3 l4 y e0 e1).toArray, .pointer (some ⟨w.heap.size, 0, none⟩), .slice none 0 0, .pointer (some ⟨w.heap.size, 0, none⟩), .int .i64 id, .slice sa0 sn0 sc0, .pointer (some ⟨w.heap.size, 1, none⟩), .agg ([.int .i64 t0, .int .i64 t1, .int .i64 t2, .int .i64 t3, .int .i64 t4, .int .i64 t5]).toArray, .slice sa1 sn1 sc1, .pointer (some ⟨w.heap.size, 7, none⟩), .slice pa pn pc, .slice sa2 sn2 sc2, .pointer (some ⟨w.heap.size, 8, none⟩), .pointer (some ⟨w.heap.size, 8, none⟩), .slice (some ⟨w.heap.size, 8, none⟩) 12 12, .slice sa3 sn3 sc3, .pointer (some ⟨w.heap.size, 20, none⟩), .agg ([.int .i64 s, .bool z, .int .i64 k0, .int .i64 k1, .int .i64 k2, .int .i64 k3, .int .i64 k4, .int .i64 k5, .int .i64 k6, .int .i64 k7, .int .i64 k8, .int .i64 k9, .int .i64 k10, .int .i64 k11, .int .i64 k12]).toArray, undef, .pointer (some ⟨w.heap.size, 35, none⟩), .int .i64 d0, .pointer (some ⟨w.heap.size, 36, none⟩), .int .i64 d1, .pointer (some ⟨w.heap.size, 37, none⟩), .int .i64 d2, .slice (some ⟨F0, 0, none⟩) 3 3, undef, .pointer (some ⟨w.heap.size, 38, none⟩), .agg ([.int .i64 l0, .int .i64 l1, .int .i64 l2, .int .i64 l3, .int .i64 l4]).toArray, undef, .pointer (some ⟨w.heap.size, 43, none⟩), .bool y, undef, .pointer (some ⟨w.heap.size, 44, none⟩), .int .i64 e0, .pointer (some ⟨w.heap.size, 45, none⟩), .int .i64 e1, undef, undef, undef, undef], []⟩ W := by
    intro W sa0 sn0 sc0 sa1 sn1 sc1 sa2 sn2 sc2 sa3 sn3 sc3 F0 BL BW D0 D1 D2 D3 G0
    refine hG.1 _ _ _ _ ?_
    refine wpAnyH_ready (rs := [15, 34]) (by kernel_rfl) (by simp) ?_
    refine AllReadyH.cons (o := { dst := some 18, op := Op.call { callee := Callee.value (Operand.func 58), args := #[Operand.tmp 17], argTypes := #[61] }, type := 33, pos := "encode.go:64", after := #[{ on := 14, ground := Ground.data }, { on := 12, ground := Ground.chain }], guard := none }) rfl (fun K hK => ?_) (AllReadyH.cons (o := { dst := some 37, op := Op.buildSlice 110 2 #[(0, Operand.tmp 34), (1, Operand.tmp 36)], type := 110, pos := "encode.go:59", after := #[{ on := 31, ground := Ground.data }, { on := 33, ground := Ground.data }], guard := none }) rfl (fun K hK => ?_) AllReadyH.nil)
    · go_simp
      refine (C4.out W).mono ?_
      rintro e W2 ⟨v, rfl, rv, bX⟩
      obtain ⟨sa4, sc4, ev, -, -⟩ := (RowV.rd rv).len
      generalize ((r4).map bv).length = sn4 at ev
      subst ev
      have BL' : Hid (Blk (w.heap.size) 65 ((lnC id t0 t1 t2 t3 t4 t5 pa pn pc b0 b1 b2 b3 b4 b5 b6 b7 b8 b9 b10 b11 s z k0 k1 k2 k3 k4 k5 k6 k7 k8 k9 k10 k11 k12 d0 d1 d2 l0 l1 l2 l3 l4 y e0 e1)) W2) := BL.out.below bX
      have BW' : Hid (Below w.heap.size w W2) := below_trans BW.out bX
      have D0' : Hid (RdB W2 (.slice sa0 sn0 sc0) (r0)) := D0.out.later bX
      have D1' : Hid (RdB W2 (.slice sa1 sn1 sc1) (r1)) := D1.out.later bX
      have D2' : Hid (RdB W2 (.slice sa2 sn2 sc2) (r2)) := D2.out.later bX
      have D3' : Hid (RdB W2 (.slice sa3 sn3 sc3) (r3)) := D3.out.later bX
      have D4' : Hid (RdB W2 (.slice sa4 sn4 sc4) (r4)) := RowV.rd rv
      have G0' : Hid (Blk F0 2 [.int .i64 d0, .int .i64 d1, .int .i64 d2] W2) := G0.out.below bX
      refine hK.out _ _ BL'.out (fun _ => ?_)
      try simp only [List.setIfInBounds_toArray, List.set_cons_zero, List.set_cons_succ]
      exact hG.2 _ _ _ _ (Q5_0 W2 _ _ _ _ _ _ _ _ _ _ _ _ _ _ _ _ BL' BW' D0' D1' D2' D3' D4' G0')
    · go_simp
      have bX := below_alloc W (.cells #[.int .i64 e0, .int .i64 e1] 2)
      have G1' : Hid (Blk W.heap.size 2 [.int .i64 e0, .int .i64 e1] (W.alloc (.cells #[.int .i64 e0, .int .i64 e1] 2))) := Blk.new _ _ _
      have BL' : Hid (Blk (w.heap.size) 65 ((lnC id t0 t1 t2 t3 t4 t5 pa pn pc b0 b1 b2 b3 b4 b5 b6 b7 b8 b9 b10 b11 s z k0 k1 k2 k3 k4 k5 k6 k7 k8 k9 k10 k11 k12 d0 d1 d2 l0 l1 l2 l3 l4 y e0 e1)) (W.alloc (.cells #[.int .i64 e0, .int .i64 e1] 2))) := BL.out.below bX
      have BW' : Hid (Below w.heap.size w (W.alloc (.cells #[.int .i64 e0, .int .i64 e1] 2))) := below_trans BW.out bX
      have D0' : Hid (RdB (W.alloc (.cells #[.int .i64 e0, .int .i64 e1] 2)) (.slice sa0 sn0 sc0) (r0)) := D0.out.later bX
      have D1' : Hid (RdB (W.alloc (.cells #[.int .i64 e0, .int .i64 e1] 2)) (.slice sa1 sn1 sc1) (r1)) := D1.out.later bX
      have D2' : Hid (RdB (W.alloc (.cells #[.int .i64 e0, .int .i64 e1] 2)) (.slice sa2 sn2 sc2) (r2)) := D2.out.later bX
      have D3' : Hid (RdB (W.alloc (.cells #[.int .i64 e0, .int .i64 e1] 2)) (.slice sa3 sn3 sc3) (r3)) := D3.out.later bX
      have G0' : Hid (Blk F0 2 [.int .i64 d0, .int .i64 d1, .int .i64 d2] (W.alloc (.cells #[.int .i64 e0, .int .i64 e1] 2))) := G0.out.below bX
      refine hK.out _ _ BL'.out (fun _ => ?_)
      try simp only [List.setIfInBounds_toArray, List.set_cons_zero, List.set_cons_succ]
      exact hG.2 _ _ _ _ (Q4_01 _ _ _ _ _ _ _ _ _ _ _ _ _ _ _ BL' BW' D0' D1' D2' D3' G0' G1')
  have Q4_1 : ∀ (W : World) (sa0 : Option Addr) (sn0 sc0 : Nat) (sa1 : Option Addr) (sn1 sc1 : Nat) (sa2 : Option Addr) (sn2 sc2 : Nat) (sa3 : Option Addr) (sn3 sc3 : Nat) (F1 : Nat), Hid (Blk (w.heap.size) 65 ((lnC id t0 t1 t2 t3 t4 t5 pa pn pc b0 b1 b2 b3 b4 b5 b6 b7 b8 b9 b10 b11 s z k0 k1 k2 k3 k4 k5 k6 k7 k8 k9 k10 k11 k12 d0 d1 d2 l0 l1 l2 l3 l4 y e0 e1)) W) → Hid (Below w.heap.size w W) → Hid (RdB W (.slice sa0 sn0 sc0) (r0)) → Hid (RdB W (.slice sa1 sn1 sc1) (r1)) → Hid (RdB W (.slice sa2 sn2 sc2) (r2)) → Hid (RdB W (.slice sa3 sn3 sc3) (r3)) → Hid (Blk F1 2 [.int .i64 e0, .int .i64 e1] W) → G 9 #[true, true, true, true, true, true, true, true, true, true, true, true, true, true, true, false, true, true, true, true, true, true, false, false, true, true, false, true, true, false, true, true, true, true, true, false, false, false, false] ⟨#[.agg (lnC id t0 t1 t2 t3 t4 t5 pa pn pc b0 b1 b2 b3 b4 b5 b6 b7 b8 b9 b10 b11 s z k0 k1 k2 k3 k4 k5 k6 k7 k8 k9 k10 k11 k12 d0 d1 d2 l0 l1 l2 l3 l4 y e0 e1).toArray, .pointer (some ⟨w.heap.size, 0, none⟩), .slice none 0 0, .pointer (some ⟨w.heap.size, 0, none⟩), .int .i64 id, .slice sa0 sn0 sc0, .pointer (some ⟨w.heap.size, 1, none⟩), .agg ([.int .i64 t0, .int .i64 t1, .int .i64 t2, .int .i64 t3, .int .i64 t4, .int .i64 t5]).toArray, .slice sa1 sn1 sc1, .pointer (some ⟨w.heap.size, 7, none⟩), .slice pa pn pc, .slice sa2 sn2 sc2, .pointer (some ⟨w.heap.size, 8, none⟩), .pointer (some ⟨w.heap.size, 8, none⟩), .slice (some ⟨w.heap.size, 8, none⟩) 12 12, .slice sa3 sn3 sc3, .pointer (some ⟨w.heap.size, 20, none⟩), .agg ([.int .i64 s, .bool z, .int .i64 k0, .int .i64 k1, .int .i64 k2, .int .i64 k3, .int .i64 k4, .int .i64 k5, .int .i64 k6, .int .i64 k7, .int .i64 k8, .int .i64 k9, .int .i64 k10, .int .i64 k11, .int .i64 k12]).toArray, undef, .pointer (some ⟨w.heap.size, 35, none⟩), .int .i64 d0, .pointer (some ⟨w.heap.size, 36, none⟩), .int .i64 d1, .pointer (some ⟨w.heap.size, 37, none⟩), .int .i64 d2, undef, undef, .pointer (some ⟨w.heap.size, 38, none⟩), .agg ([.int .i64 l0, .int .i64 l1, .int .i64 l2, .int .i64 l3, .int .i64 l4]).toArray, undef, .pointer (some ⟨w.heap.size, 43, none⟩), .bool y, undef, .pointer (some ⟨w.heap.size, 44, none⟩), .int .i64 e0, .pointer (some ⟨w.heap.size, 45, none⟩), .int .i64 e1, .slice (some ⟨F1, 0, none⟩) 2 2, undef, undef, undef], []⟩ W := by
    intro W sa0 sn0 sc0 sa1 sn1 sc1 sa2 sn2 sc2 sa3 sn3 sc3 F1 BL BW D0 D1 D2 D3 G1
    refine hG.1 _ _ _ _ ?_
    refine wpAnyH_ready (rs := [15, 22]) (by kernel_rfl) (by simp) ?_
    refine AllReadyH.cons (o := { dst := some 18, op := Op.call { callee := Callee.value (Operand.func 58), args := #[Operand.tmp 17], argTypes := #[61] }, type := 33, pos := "encode.go:64", after := #[{ on := 14, ground := Ground.data }, { on := 12, ground := Ground.chain }], guard := none }) rfl (fun K hK => ?_) (AllReadyH.cons (o := { dst := some 25, op := Op.buildSlice 110 3 #[(0, Operand.tmp 20), (1, Operand.tmp 22), (2, Operand.tmp 24)], type := 110, pos := "encode.go:59", after := #[{ on := 17, ground := Ground.data }, { on := 19, ground := Ground.data }, { on := 21, ground := Ground.data }], guard := none }) rfl (fun K hK => ?_) AllReadyH.nil)
    · go_simp
      refine (C4.out W).mono ?_
      rintro e W2 ⟨v, rfl, rv, bX⟩
      obtain ⟨sa4, sc4, ev, -, -⟩ := (RowV.rd rv).len
      generalize ((r4).map bv).length = sn4 at ev
      subst ev
      have BL' : Hid (Blk (w.heap.size) 65 ((lnC id t0 t1 t2 t3 t4 t5 pa pn pc b0 b1 b2 b3 b4 b5 b6 b7 b8 b9 b10 b11 s z k0 k1 k2 k3 k4 k5 k6 k7 k8 k9 k10 k11 k12 d0 d1 d2 l0 l1 l2 l3 l4 y e0 e1)) W2) := BL.out.below bX
      have BW' : Hid (Below w.heap.size w W2) := below_trans BW.out bX
      have D0' : Hid (RdB W2 (.slice sa0 sn0 sc0) (r0)) := D0.out.later bX
      have D1' : Hid (RdB W2 (.slice sa1 sn1 sc1) (r1)) := D1.out.later bX
      have D2' : Hid (RdB W2 (.slice sa2 sn2 sc2) (r2)) := D2.out.later bX
      have D3' : Hid (RdB W2 (.slice sa3 sn3 sc3) (r3)) := D3.out.later bX
      have D4' : Hid (RdB W2 (.slice sa4 sn4 sc4) (r4)) := RowV.rd rv
      have G1' : Hid (Blk F1 2 [.int .i64 e0, .int .i64 e1] W2) := G1.out.below bX
      refine hK.out _ _ BL'.out (fun _ => ?_)
      try simp only [List.setIfInBounds_toArray, List.set_cons_zero, List.set_cons_succ]
      exact hG.2 _ _ _ _ (Q5_1 W2 _ _ _ _ _ _ _ _ _ _ _ _ _ _ _ _ BL' BW' D0' D1' D2' D3' D4' G1')
    · go_simp
      have bX := below_alloc W (.cells #[.int .i64 d0, .int .i64 d1, .int .i64 d2] 2)
      have G0' : Hid (Blk W.heap.size 2 [.int .i64 d0, .int .i64 d1, .int .i64 d2] (W.alloc (.cells #[.int .i64 d0, .int .i64 d1, .int .i64 d2] 2))) := Blk.new _ _ _
      have BL' : Hid (Blk (w.heap.size) 65 ((lnC id t0 t1 t2 t3 t4 t5 pa pn pc b0 b1 b2 b3 b4 b5 b6 b7 b8 b9 b10 b11 s z k0 k1 k2 k3 k4 k5 k6 k7 k8 k9 k10 k11 k12 d0 d1 d2 l0 l1 l2 l3 l4 y e0 e1)) (W.alloc (.cells #[.int .i64 d0, .int .i64 d1, .int .i64 d2] 2))) := BL.out.below bX
      have BW' : Hid (Below w.heap.size w (W.alloc (.cells #[.int .i64 d0, .int .i64 d1, .int .i64 d2] 2))) := below_trans BW.out bX
      have D0' : Hid (RdB (W.alloc (.cells #[.int .i64 d0, .int .i64 d1, .int .i64 d2] 2)) (.slice sa0 sn0 sc0) (r0)) := D0.out.later bX
      have D1' : Hid (RdB (W.alloc (.cells #[.int .i64 d0, .int .i64 d1, .int .i64 d2] 2)) (.slice sa1 sn1 sc1) (r1)) := D1.out.later bX
      have D2' : Hid (RdB (W.alloc (.cells #[.int .i64 d0, .int .i64 d1, .int .i64 d2] 2)) (.slice sa2 sn2 sc2) (r2)) := D2.out.later bX
      have D3' : Hid (RdB (W.alloc (.cells #[.int .i64 d0, .int .i64 d1, .int .i64 d2] 2)) (.slice sa3 sn3 sc3) (r3)) := D3.out.later bX
      have G1' : Hid (Blk F1 2 [.int .i64 e0, .int .i64 e1] (W.alloc (.cells #[.int .i64 d0, .int .i64 d1, .int .i64 d2] 2))) := G1.out.below bX
      refine hK.out _ _ BL'.out (fun _ => ?_)
      try simp only [List.setIfInBounds_toArray, List.set_cons_zero, List.set_cons_succ]
      exact hG.2 _ _ _ _ (Q4_01 _ _ _ _ _ _ _ _ _ _ _ _ _ _ _ BL' BW' D0' D1' D2' D3' G0' G1')
  have Q4_ : ∀ (W : World) (sa0 : Option Addr) (sn0 sc0 : Nat) (sa1 : Option Addr) (sn1 sc1 : Nat) (sa2 : Option Addr) (sn2 sc2 : Nat) (sa3 : Option Addr) (sn3 sc3 : Nat), Hid (Blk (w.heap.size) 65 ((lnC id t0 t1 t2 t3 t4 t5 pa pn pc b0 b1 b2 b3 b4 b5 b6 b7 b8 b9 b10 b11 s z k0 k1 k2 k3 k4 k5 k6 k7 k8 k9 k10 k11 k12 d0 d1 d2 l0 l1 l2 l3 l4 y e0 e1)) W) → Hid (Below w.heap.size w W) → Hid (RdB W (.slice sa0 sn0 sc0) (r0)) → Hid (RdB W (.slice sa1 sn1 sc1) (r1)) → Hid (RdB W (.slice sa2 sn2 sc2) (r2)) → Hid (RdB W (.slice sa3 sn3 sc3) (r3)) → G 10 #[true, true, true, true, true, true, true, true, true, true, true, true, true, true, true, false, true, true, true, true, true, true, false, false, true, true, false, true, true, false, true, true, true, true, false, false, false, false, false] ⟨#[.agg (lnC id t0 t1 t2 t3 t4 t5 pa pn pc b0 b1 b2 b3 b4 b5 b6 b7 b8 b9 b10 b11 s z k0 k1 k2 k3 k4 k5 k6 k7 k8 k9 k10 k11 k12 d0 d1 d2 l0 l1 l2 l3 l4 y e0 e1).toArray, .pointer (some ⟨w.heap.size, 0, none⟩), .slice none 0 0, .pointer (some ⟨w.heap.size, 0, none⟩), .int .i64 id, .slice sa0 sn0 sc0, .pointer (some ⟨w.heap.size, 1, none⟩), .agg ([.int .i64 t0, .int .i64 t1, .int .i64 t2, .int .i64 t3, .int .i64 t4, .int .i64 t5]).toArray, .slice sa1 sn1 sc1, .pointer (some ⟨w.heap.size, 7, none⟩), .slice pa pn pc, .slice sa2 sn2 sc2, .pointer (some ⟨w.heap.size, 8, none⟩), .pointer (some ⟨w.heap.size, 8, none⟩), .slice (some ⟨w.heap.size, 8, none⟩) 12 12, .slice sa3 sn3 sc3, .pointer (some ⟨w.heap.size, 20, none⟩), .agg ([.int .i64 s, .bool z, .int .i64 k0, .int .i64 k1, .int .i64 k2, .int .i64 k3, .int .i64 k4, .int .i64 k5, .int .i64 k6, .int .i64 k7, .int .i64 k8, .int .i64 k9, .int .i64 k10, .int .i64 k11, .int .i64 k12]).toArray, undef, .pointer (some ⟨w.heap.size, 35, none⟩), .int .i64 d0, .pointer (some ⟨w.heap.size, 36, none⟩), .int .i64 d1, .pointer (some ⟨w.heap.size, 37, none⟩), .int .i64 d2, undef, undef, .pointer (some ⟨w.heap.size, 38, none⟩), .agg ([.int .i64 l0, .int .i64 l1, .int .i64 l2, .int .i64 l3, .int .i64 l4]).toArray, undef, .pointer (some ⟨w.heap.size, 43, none⟩), .bool y, undef, .pointer (some ⟨w.heap.size, 44, none⟩), .int .i64 e0, .pointer (some ⟨w.heap.size, 45, none⟩), .int .i64 e1, undef, undef, undef, undef], []⟩ W := by
    intro W sa0 sn0 sc0 sa1 sn1 sc1 sa2 sn2 sc2 sa3 sn3 sc3 BL BW D0 D1 D2 D3
    refine hG.1 _ _ _ _ ?_
    refine wpAnyH_ready (rs := [15, 22, 34]) (by kernel_rfl) (by simp) ?_
    refine AllReadyH.cons (o := { dst := some 18, op := Op.call { callee := Callee.value (Operand.func 58), args := #[Operand.tmp 17], argTypes := #[61] }, type := 33, pos := "encode.go:64", after := #[{ on := 14, ground := Ground.data }, { on := 12, ground := Ground.chain }], guard := none }) rfl (fun K hK => ?_) (AllReadyH.cons (o := { dst := some 25, op := Op.buildSlice 110 3 #[(0, Operand.tmp 20), (1, Operand.tmp 22), (2, Operand.tmp 24)], type := 110, pos := "encode.go:59", after := #[{ on := 17, ground := Ground.data }, { on := 19, ground := Ground.data }, { on := 21, ground := Ground.data }], guard := none }) rfl (fun K hK => ?_) (AllReadyH.cons (o := { dst := some 37, op := Op.buildSlice 110 2 #[(0, Operand.tmp 34), (1, Operand.tmp 36)], type := 110, pos := "encode.go:59", after := #[{ on := 31, ground := Ground.data }, { on := 33, ground := Ground.data }], guard := none }) rfl (fun K hK => ?_) AllReadyH.nil))
    · go_simp
      refine (C4.out W).mono ?_
      rintro e W2 ⟨v, rfl, rv, bX⟩
      obtain ⟨sa4, sc4, ev, -, -⟩ := (RowV.rd rv).len
      generalize ((r4).map bv).length = sn4 at ev
      subst ev
      have BL' : Hid (Blk (w.heap.size) 65 ((lnC id t0 t1 t2 t3 t4 t5 pa pn pc b0 b1 b2 b3 b4 b5 b6 b7 b8 b9 b10 b11 s z k0 k1 k2 k3 k4 k5 k6 k7 k8 k9 k10 k11 k12 d0 d1 d2 l0 l1 l2 l3 l4 y e0 e1)) W2) := BL.out.below bX
      have BW' : Hid (Below w.heap.size w W2) := below_trans BW.out bX
      have D0' : Hid (RdB W2 (.slice sa0 sn0 sc0) (r0)) := D0.out.later bX
      have D1' : Hid (RdB W2 (.slice sa1 sn1 sc1) (r1)) := D1.out.later bX
      have D2' : Hid (RdB W2 (.slice sa2 sn2 sc2) (r2)) := D2.out.later bX
      have D3' : Hid (RdB W2 (.slice sa3 sn3 sc3) (r3)) := D3.out.later bX
      have D4' : Hid (RdB W2 (.slice sa4 sn4 sc4) (r4)) := RowV.rd rv
      refine hK.out _ _ BL'.out (fun _ => ?_)
      try simp only [List.setIfInBounds_toArray, List.set_cons_zero, List.set_cons_succ]
      exact hG.2 _ _ _ _ (Q5_ W2 _ _ _ _ _ _ _ _ _ _ _ _ _ _ _ BL' BW' D0' D1' D2' D3' D4')
    · go_simp
      have bX := below_alloc W (.cells #[.int .i64 d0, .int .i64 d1, .int .i64 d2] 2)
      have G0' : Hid (Blk W.heap.size 2 [.int .i64 d0, .int .i64 d1, .int .i64 d2] (W.alloc (.cells #[.int .i64 d0, .int .i64 d1, .int .i64 d2] 2))) := Blk.new _ _ _
      have BL' : Hid (Blk (w.heap.size) 65 ((lnC id t0 t1 t2 t3 t4 t5 pa pn pc b0 b1 b2 b3 b4 b5 b6 b7 b8 b9 b10 b11 s z k0 k1 k2 k3 k4 k5 k6 k7 k8 k9 k10 k11 k12 d0 d1 d2 l0 l1 l2 l3 l4 y e0 e1)) (W.alloc (.cells #[.int .i64 d0, .int .i64 d1, .int .i64 d2] 2))) := BL.out.below bX
      have BW' : Hid (Below w.heap.size w (W.alloc (.cells #[.int .i64 d0, .int .i64 d1, .int .i64 d2] 2))) := below_trans BW.out bX
      have D0' : Hid (RdB (W.alloc (.cells #[.int .i64 d0, .int .i64 d1, .int .i64 d2] 2)) (.slice sa0 sn0 sc0) (r0)) := D0.out.later bX
      have D1' : Hid (RdB (W.alloc (.cells #[.int .i64 d0, .int .i64 d1, .int .i64 d2] 2)) (.slice sa1 sn1 sc1) (r1)) := D1.out.later bX
      have D2' : Hid (RdB (W.alloc (.cells #[.int .i64 d0, .int .i64 d1, .int .i64 d2] 2)) (.slice sa2 sn2 sc2) (r2)) := D2.out.later bX
      have D3' : Hid (RdB (W.alloc (.cells #[.int .i64 d0, .int .i64 d1, .int .i64 d2] 2)) (.slice sa3 sn3 sc3) (r3)) := D3.out.later bX
      refine hK.out _ _ BL'.out (fun _ => ?_)
      try simp only [List.setIfInBounds_toArray, List.set_cons_zero, List.set_cons_succ]
      exact hG.2 _ _ _ _ (Q4_0 _ _ _ _ _ _ _ _ _ _ _ _ _ _ BL' BW' D0' D1' D2' D3' G0')
    · go_simp
      have bX := below_alloc W (.cells #[.int .i64 e0, .int .i64 e1] 2)
      have G1' : Hid (Blk W.heap.size 2 [.int .i64 e0, .int .i64 e1] (W.alloc (.cells #[.int .i64 e0, .int .i64 e1] 2))) := Blk.new _ _ _
      have BL' : Hid (Blk (w.heap.size) 65 ((lnC id t0 t1 t2 t3 t4 t5 pa pn pc b0 b1 b2 b3 b4 b5 b6 b7 b8 b9 b10 b11 s z k0 k1 k2 k3 k4 k5 k6 k7 k8 k9 k10 k11 k12 d0 d1 d2 l0 l1 l2 l3 l4 y e0 e1)) (W.alloc (.cells #[.int .i64 e0, .int .i64 e1] 2))) := BL.out.below bX
      have BW' : Hid (Below w.heap.size w (W.alloc (.cells #[.int .i64 e0, .int .i64 e1] 2))) := below_trans BW.out bX
      have D0' : Hid (RdB (W.alloc (.cells #[.int .i64 e0, .int .i64 e1] 2)) (.slice sa0 sn0 sc0) (r0)) := D0.out.later bX
      have D1' : Hid (RdB (W.alloc (.cells #[.int .i64 e0, .int .i64 e1] 2)) (.slice sa1 sn1 sc1) (r1)) := D1.out.later bX
      have D2' : Hid (RdB (W.alloc (.cells #[.int .i64 e0, .int .i64 e1] 2)) (.slice sa2 sn2 sc2) (r2)) := D2.out.later bX
      have D3' : Hid (RdB (W.alloc (.cells #[.int .i64 e0, .int .i64 e1] 2)) (.slice sa3 sn3 sc3) (r3)) := D3.out.later bX
      refine hK.out _ _ BL'.out (fun _ => ?_)
      try simp only [List.setIfInBounds_toArray, List.set_cons_zero, List.set_cons_succ]
      exact hG.2 _ _ _ _ (Q4_1 _ _ _ _ _ _ _ _ _ _ _ _ _ _ BL' BW' D0' D1' D2' D3' G1')
  have Q3_01 : ∀ (W : World) (sa0 : Option Addr) (sn0 sc0 : Nat) (sa1 : Option Addr) (sn1 sc1 : Nat) (sa2 : Option Addr) (sn2 sc2 : Nat) (F0 : Nat) (F1 : Nat), Hid (Blk (w.heap.size) 65 ((lnC id t0 t1 t2 t3 t4 t5 pa pn pc b0 b1 b2 b3 b4 b5 b6 b7 b8 b9 b10 b11 s z k0 k1 k2 k3 k4 k5 k6 k7 k8 k9 k10 k11 k12 d0 d1 d2 l0 l1 l2 l3 l4 y e0 e1)) W) → Hid (Below w.heap.size w W) → Hid (RdB W (.slice sa0 sn0 sc0) (r0)) → Hid (RdB W (.slice sa1 sn1 sc1) (r1)) → Hid (RdB W (.slice sa2 sn2 sc2) (r2)) → Hid (Blk F0 2 [.int .i64 d0, .int .i64 d1, .int .i64 d2] W) → Hid (Blk F1 2 [.int .i64 e0, .int .i64 e1] W) → G 9 #[true, true, true, true, true, true, true, true, true, true, true, true, false, true, true, false, true, true, true, true, true, true, true, false, true, true, false, true, true, false, true, true, true, true, true, false, false, false, false] ⟨#[.agg (lnC id t0 t1 t2 t3 t4 t5 pa pn pc b0 b1 b2 b3 b4 b5 b6 b7 b8 b9 b10 b11 s z k0 k1 k2 k3 k4 k5 k6 k7 k8 k9 k10 k11 k12 d0 d1 d2 l0 l1 l2 l3 l4 y e0 e1).toArray, .pointer (some ⟨w.heap.size, 0, none⟩), .slice none 0 0, .pointer (some ⟨w.heap.size, 0, none⟩), .int .i64 id, .slice sa0 sn0 sc0, .pointer (some ⟨w.heap.size, 1, none⟩), .agg ([.int .i64 t0, .int .i64 t1, .int .i64 t2, .int .i64 t3, .int .i64 t4, .int .i64 t5]).toArray, .slice sa1 sn1 sc1, .pointer (some ⟨w.heap.size, 7, none⟩), .slice pa pn pc, .slice sa2 sn2 sc2, .pointer (some ⟨w.heap.size, 8, none⟩), .pointer (some ⟨w.heap.size, 8, none⟩), .slice (some ⟨w.heap.size, 8, none⟩) 12 12, undef, .pointer (some ⟨w.heap.size, 20, none⟩), .agg ([.int .i64 s, .bool z, .int .i64 k0, .int .i64 k1, .int .i64 k2, .int .i64 k3, .int .i64 k4, .int .i64 k5, .int .i64 k6, .int .i64 k7, .int .i64 k8, .int .i64 k9, .int .i64 k10, .int .i64 k11, .int .i64 k12]).toArray, undef, .pointer (some ⟨w.heap.size, 35, none⟩), .int .i64 d0, .pointer (some ⟨w.heap.size, 36, none⟩), .int .i64 d1, .pointer (some ⟨w.heap.size, 37, none⟩), .int .i64 d2, .slice (some ⟨F0, 0, none⟩) 3 3, undef, .pointer (some ⟨w.heap.size, 38, none⟩), .agg ([.int .i64 l0, .int .i64 l1, .int .i64 l2, .int .i64 l3, .int .i64 l4]).toArray, undef, .pointer (some ⟨w.heap.size, 43, none⟩), .bool y, undef, .pointer (some ⟨w.heap.size, 44, none⟩), .int .i64 e0, .pointer (some ⟨w.heap.size, 45, none⟩), .int .i64 e1, .slice (some ⟨F1, 0, none⟩) 2 2, undef, undef, undef], []⟩ W := by
    intro W sa0 sn0 sc0 sa1 sn1 sc1 sa2 sn2 sc2 F0 F1 BL BW D0 D1 D2 G0 G1
    refine hG.1 _ _ _ _ ?_
    refine wpAnyH_ready (rs := [12]) (by kernel_rfl) (by simp) ?_
    refine AllReadyH.cons (o := { dst := some 15, op := Op.call { callee := Callee.value (Operand.func 39), args := #[Operand.tmp 14], argTypes := #[110] }, type := 33, pos := "encode.go:63", after := #[{ on := 11, ground := Ground.data }, { on := 8, ground := Ground.chain }], guard := none }) rfl (fun K hK => ?_) AllReadyH.nil
    go_simp
    refine (C3.out W BL.out).mono ?_
    rintro e W2 ⟨v, rfl, rv, bX⟩
    obtain ⟨sa3, sc3, ev, -, -⟩ := (RowV.rd rv).len
    generalize ((r3).map bv).length = sn3 at ev
    subst ev
    have BL' : Hid (Blk (w.heap.size) 65 ((lnC id t0 t1 t2 t3 t4 t5 pa pn pc b0 b1 b2 b3 b4 b5 b6 b7 b8 b9 b10 b11 s z k0 k1 k2 k3 k4 k5 k6 k7 k8 k9 k10 k11 k12 d0 d1 d2 l0 l1 l2 l3 l4 y e0 e1)) W2) := BL.out.below bX
    have BW' : Hid (Below w.heap.size w W2) := below_trans BW.out bX
    have D0' : Hid (RdB W2 (.slice sa0 sn0 sc0) (r0)) := D0.out.later bX
    have D1' : Hid (RdB W2 (.slice sa1 sn1 sc1) (r1)) := D1.out.later bX
    have D2' : Hid (RdB W2 (.slice sa2 sn2 sc2) (r2)) := D2.out.later bX
    have D3' : Hid (RdB W2 (.slice sa3 sn3 sc3) (r3)) := RowV.rd rv
    have G0' : Hid (Blk F0 2 [.int .i64 d0, .int .i64 d1, .int .i64 d2] W2) := G0.out.below bX
    have G1' : Hid (Blk F1 2 [.int .i64 e0, .int .i64 e1] W2) := G1.out.below bX
    refine hK.out _ _ BL'.out (fun _ => ?_)
    try simp only [List.setIfInBounds_toArray, List.set_cons_zero, List.set_cons_succ]
    exact hG.2 _ _ _ _ (Q4_01 W2 _ _ _ _ _ _ _ _ _ _ _ _ _ _ BL' BW' D0' D1' D2' D3' G0' G1')
  have Q3_0 : ∀ (W : World) (sa0 : Option Addr) (sn0 sc0 : Nat) (sa1 : Option Addr) (sn1 sc1 : Nat) (sa2 : Option Addr) (sn2 sc2 : Nat) (F0 : Nat), Hid (Blk (w.heap.size) 65 ((lnC id t0 t1 t2 t3 t4 t5 pa pn pc b0 b1 b2 b3 b4 b5 b6 b7 b8 b9 b10 b11 s z k0 k1 k2 k3 k4 k5 k6 k7 k8 k9 k10 k11 k12 d0 d1 d2 l0 l1 l2 l3 l4 y e0 e1)) W) → Hid (Below w.heap.size w W) → Hid (RdB W (.slice sa0 sn0 sc0) (r0)) → Hid (RdB W (.slice sa1 sn1 sc1) (r1)) → Hid (RdB W (.slice sa2 sn2 sc2) (r2)) → Hid (Blk F0 2 [.int .i64 d0, .int .i64 d1, .int .i64 d2] W) → G 10 #[true, true, true, true, true, true, true, true, true, true, true, true, false, true, true, false, true, true, true, true, true, true, true, false, true, true, false, true, true, false, true, true, true, true, false, false, false, false, false] ⟨#[.agg (lnC id t0 t1 t2 t3 t4 t5 pa pn pc b0 b1 b2 b3 b4 b5 b6 b7 b8 b9 b10 b11 s z k0 k1 k2 k3 k4 k5 k6 k7 k8 k9 k10 k11 k12 d0 d1 d2 l0 l1 l2 l3 l4 y e0 e1).toArray, .pointer (some ⟨w.heap.size, 0, none⟩), .slice none 0 0, .pointer (some ⟨w.heap.size, 0, none⟩), .int .i64 id, .slice sa0 sn0 sc0, .pointer (some ⟨w.heap.size, 1, none⟩), .agg ([.int .i64 t0, .int .i64 t1, .int .i64 t2, .int .i64 t3, .int .i64 t4, .int .i64 t5]).toArray, .slice sa1 sn1 sc1, .pointer (some ⟨w.heap.size, 7, none⟩), .slice pa pn pc, .slice sa2 sn2 sc2, .pointer (some ⟨w.heap.size, 8, none⟩), .pointer (some ⟨w.heap.size, 8, none⟩), .slice (some ⟨w.heap.size, 8, none⟩) 12 12, undef, .pointer (some ⟨w.heap.size, 20, none⟩), .agg ([.int .i64 s, .bool z, .int .i64 k0, .int .i64 k1, .int .i64 k2, .int .i64 k3, .int .i64 k4, .int .i64 k5, .int .i64 k6, .int .i64 k7, .int .i64 k8, .int .i64 k9, .int .i64 k10, .int .i64 k11, .int .i64 k12]).toArray, undef, .pointer (some ⟨w.heap.size, 35, none⟩), .int .i64 d0, .pointer (some ⟨w.heap.size, 36, none⟩), .int .i64 d1, .pointer (some ⟨w.heap.size, 37, none⟩), .int .i64 d2, .slice (some ⟨F0, 0, none⟩) 3 3, undef, .pointer (some ⟨w.heap.size, 38, none⟩), .agg ([.int .i64 l0, .int .i64 l1, .int .i64 l2, .int .i64 l3, .int .i64 l4]).toArray, undef, .pointer (some ⟨w.heap.size, 43, none⟩), .bool y, undef, .pointer (some ⟨w.heap.size, 44, none⟩), .int .i64 e0, .pointer (some ⟨w.heap.size, 45, none⟩), .int .i64 e1, undef, undef, undef, undef], []⟩ W := by
    intro W sa0 sn0 sc0 sa1 sn1 sc1 sa2 sn2 sc2 F0 BL BW D0 D1 D2 G0
    refine hG.1 _ _ _ _ ?_
    refine wpAnyH_ready (rs := [12, 34]) (by kernel_rfl) (by simp) ?_
    refine AllReadyH.cons (o := { dst := some 15, op := Op.call { callee := Callee.value (Operand.func 39), args := #[Operand.tmp 14], argTypes := #[110] }, type := 33, pos := "encode.go:63", after := #[{ on := 11, ground := Ground.data }, { on := 8, ground := Ground.chain }], guard := none }) rfl (fun K hK => ?_) (AllReadyH.cons (o := { dst := some 37, op := Op.buildSlice 110 2 #[(0, Operand.tmp 34), (1, Operand.tmp 36)], type := 110, pos := "encode.go:59", after := #[{ on := 31, ground := Ground.data }, { on := 33, ground := Ground.data }], guard := none }) rfl (fun K hK => ?_) AllReadyH.nil)
    · go_simp
      refine (C3.out W BL.out).mono ?_
      rintro e W2 ⟨v, rfl, rv, bX⟩
      obtain ⟨sa3, sc3, ev, -, -⟩ := (RowV.rd rv).len
      generalize ((r3).map bv).length = sn3 at ev
      subst ev
      have BL' : Hid (Blk (w.heap.size) 65 ((lnC id t0 t1 t2 t3 t4 t5 pa pn pc b0 b1 b2 b3 b4 b5 b6 b7 b8 b9 b10 b11 s z k0 k1 k2 k3 k4 k5 k6 k7 k8 k9 k10 k11 k12 d0 d1 d2 l0 l1 l2 l3 l4 y e0 e1)) W2) := BL.out.below bX
      have BW' : Hid (Below w.heap.size w W2) := below_trans BW.out bX
      have D0' : Hid (RdB W2 (.slice sa0 sn0 sc0) (r0)) := D0.out.later bX
      have D1' : Hid (RdB W2 (.slice sa1 sn1 sc1) (r1)) := D1.out.later bX
      have D2' : Hid (RdB W2 (.slice sa2 sn2 sc2) (r2)) := D2.out.later bX
      have D3' : Hid (RdB W2 (.slice sa3 sn3 sc3) (r3)) := RowV.rd rv
      have G0' : Hid (Blk F0 2 [.int .i64 d0, .int .i64 d1, .int .i64 d2] W2) := G0.out.below bX
      refine hK.out _ _ BL'.out (fun _ => ?_)
      try simp only [List.setIfInBounds_toArray, List.set_cons_zero, List.set_cons_succ]
      exact hG.2 _ _ _ _ (Q4_0 W2 _ _ _ _ _ _ _ _ _ _ _ _ _ BL' BW' D0' D1' D2' D3' G0')
    · go_simp
      have bX := below_alloc W (.cells #[.int .i64 e0, .int .i64 e1] 2)
      have G1' : Hid (Blk W.heap.size 2 [.int .i64 e0, .int .i64 e1] (W.alloc (.cells #[.int .i64 e0, .int .i64 e1] 2))) := Blk.new _ _ _
      have BL' : Hid (Blk (w.heap.size) 65 ((lnC id t0 t1 t2 t3 t4 t5 pa pn pc b0 b1 b2 b3 b4 b5 b6 b7 b8 b9 b10 b11 s z k0 k1 k2 k3 k4 k5 k6 k7 k8 k9 k10 k11 k12 d0 d1 d2 l0 l1 l2 l3 l4 y e0 e1)) (W.alloc (.cells #[.int .i64 e0, .int .i64 e1] 2))) := BL.out.below bX
      have BW' : Hid (Below w.heap.size w (W.alloc (.cells #[.int .i64 e0, .int .i64 e1] 2))) := below_trans BW.out bX
      have D0' : Hid (RdB (W.alloc (.cells #[.int .i64 e0, .int .i64 e1] 2)) (.slice sa0 sn0 sc0) (r0)) := D0.out.later bX
      have D1' : Hid (RdB (W.alloc (.cells #[.int .i64 e0, .int .i64 e1] 2)) (.slice sa1 sn1 sc1) (r1)) := D1.out.later bX
      have D2' : Hid (RdB (W.alloc (.cells #[.int .i64 e0, .int .i64 e1] 2)) (.slice sa2 sn2 sc2) (r2)) := D2.out.later bX
      have G0' : Hid (Blk F0 2 [.int .i64 d0, .int .i64 d1, .int .i64 d2] (W.alloc (.cells #[.int .i64 e0, .int .i64 e1] 2))) := G0.out.below bX
      refine hK.out _ _ BL'.out (fun _ => ?_)
      try simp only [List.setIfInBounds_toArray, List.set_cons_zero, List.set_cons_succ]
      exact hG.2 _ _ _ _ (Q3_01 _ _ _ _ _ _ _ _ _ _ _ _ BL' BW' D0' D1' D2' G0' G1')
  have Q3_1 : ∀ (W : World) (sa0 : Option Addr) (sn0 sc0 : Nat) (sa1 : Option Addr) (sn1 sc1 : Nat) (sa2 : Option Addr) (sn2 sc2 : Nat) (F1 : Nat), Hid (Blk (w.heap.size) 65 ((lnC id t0 t1 t2 t3 t4 t5 pa pn pc b0 b1 b2 b3 b4 b5 b6 b7 b8 b9 b10 b11 s z k0 k1 k2 k3 k4 k5 k6 k7 k8 k9 k10 k11 k12 d0 d1 d2 l0 l1 l2 l3 l4 y e0 e1)) W) → Hid (Below w.heap.size w W) → Hid (RdB W (.slice sa0 sn0 sc0) (r0)) → Hid (RdB W (.slice sa1 sn1 sc1) (r1)) → Hid (RdB W (.slice sa2 sn2 sc2) (r2)) → Hid (Blk F1 2 [.int .i64 e0, .int .i64 e1] W) → G 10 #[true, true, true, true, true, true, true, true, true, true, true, true, false, true, true, false, true, true, true, true, true, true, false, false, true, true, false, true, true, false, true, true, true, true, true, false, false, false, false] ⟨#[.agg (lnC id t0 t1 t2 t3 t4 t5 pa pn pc b0 b1 b2 b3 b4 b5 b6 b7 b8 b9 b10 b11 s z k0 k1 k2 k3 k4 k5 k6 k7 k8 k9 k10 k11 k12 d0 d1 d2 l0 l1 l2 l3 l4 y e0 e1).toArray, .pointer (some ⟨w.heap.size, 0, none⟩), .slice none 0 0, .pointer (some ⟨w.heap.size, 0, none⟩), .int .i64 id, .slice sa0 sn0 sc0, .pointer (some ⟨w.heap.size, 1, none⟩), .agg ([.int .i64 t0, .int .i64 t1, .int .i64 t2, .int .i64 t3, .int .i64 t4, .int .i64 t5]).toArray, .slice sa1 sn1 sc1, .pointer (some ⟨w.heap.size, 7, none⟩), .slice pa pn pc, .slice sa2 sn2 sc2, .pointer (some ⟨w.heap.size, 8, none⟩), .pointer (some ⟨w.heap.size, 8, none⟩), .slice (some ⟨w.heap.size, 8, none⟩) 12 12, undef, .pointer (some ⟨w.heap.size, 20, none⟩), .agg ([.int .i64 s, .bool z, .int .i64 k0, .int .i64 k1, .int .i64 k2, .int .i64 k3, .int .i64 k4, .int .i64 k5, .int .i64 k6, .int .i64 k7, .int .i64 k8, .int .i64 k9, .int .i64 k10, .int .i64 k11, .int .i64 k12]).toArray, undef, .pointer (some ⟨w.heap.size, 35, none⟩), .int .i64 d0, .pointer (some ⟨w.heap.size, 36, none⟩), .int .i64 d1, .pointer (some ⟨w.heap.size, 37, none⟩), .int .i64 d2, undef, undef, .pointer (some ⟨w.heap.size, 38, none⟩), .agg ([.int .i64 l0, .int .i64 l1, .int .i64 l2, .int .i64 l3, .int .i64 l4]).toArray, undef, .pointer (some ⟨w.heap.size, 43, none⟩), .bool y, undef, .pointer (some ⟨w.heap.size, 44, none⟩), .int .i64 e0, .pointer (some ⟨w.heap.size, 45, none⟩), .int .i64 e1, .slice (some ⟨F1, 0, none⟩) 2 2, undef, undef, undef], []⟩ W := by
    intro W sa0 sn0 sc0 sa1 sn1 sc1 sa2 sn2 sc2 F1 BL BW D0 D1 D2 G1
    refine hG.1 _ _ _ _ ?_
    refine wpAnyH_ready (rs := [12, 22]) (by kernel_rfl) (by simp) ?_
    refine AllReadyH.cons (o := { dst := some 15, op := Op.call { callee := Callee.value (Operand.func 39), args := #[Operand.tmp 14], argTypes := #[110] }, type := 33, pos := "encode.go:63", after := #[{ on := 11, ground := Ground.data }, { on := 8, ground := Ground.chain }], guard := none }) rfl (fun K hK => ?_) (AllReadyH.cons (o := { dst := some 25, op := Op.buildSlice 110 3 #[(0, Operand.tmp 20), (1, Operand.tmp 22), (2, Operand.tmp 24)], type := 110, pos := "encode.go:59", after := #[{ on := 17, ground := Ground.data }, { on := 19, ground := Ground.data }, { on := 21, ground := Ground.data }], guard := none }) rfl (fun K hK => ?_) AllReadyH.nil)
    · go_simp
      refine (C3.out W BL.out).mono ?_
      rintro e W2 ⟨v, rfl, rv, bX⟩
      obtain ⟨sa3, sc3, ev, -, -⟩ := (RowV.rd rv).len
      generalize ((r3).map bv).length = sn3 at ev
      subst ev
      have BL' : Hid (Blk (w.heap.size) 65 ((lnC id t0 t1 t2 t3 t4 t5 pa pn pc b0 b1 b2 b3 b4 b5 b6 b7 b8 b9 b10 b11 s z k0 k1 k2 k3 k4 k5 k6 k7 k8 k9 k10 k11 k12 d0 d1 d2 l0 l1 l2 l3 l4 y e0 e1)) W2) := BL.out.below bX
      have BW' : Hid (Below w.heap.size w W2) := below_trans BW.out bX
      have D0' : Hid (RdB W2 (.slice sa0 sn0 sc0) (r0)) := D0.out.later bX
      have D1' : Hid (RdB W2 (.slice sa1 sn1 sc1) (r1)) := D1.out.later bX
      have D2' : Hid (RdB W2 (.slice sa2 sn2 sc2) (r2)) := D2.out.later bX
      have D3' : Hid (RdB W2 (.slice sa3 sn3 sc3) (r3)) := RowV.rd rv
      have G1' : Hid (Blk F1 2 [.int .i64 e0, .int .i64 e1] W2) := G1.out.below bX
      refine hK.out _ _ BL'.out (fun _ => ?_)
      try simp only [List.setIfInBounds_toArray, List.set_cons_zero, List.set_cons_succ]
      exact hG.2 _ _ _ _ (Q4_1 W2 _ _ _ _ _ _ _ _ _ _ _ _ _ BL' BW' D0' D1' D2' D3' G1')
    · go_simp
      have bX := below_alloc W (.cells #[.int .i64 d0, .int .i64 d1, .int .i64 d2] 2)
      have G0' : Hid (Blk W.heap.size 2 [.int .i64 d0, .int .i64 d1, .int .i64 d2] (W.alloc (.cells #[.int .i64 d0, .int .i64 d1, .int .i64 d2] 2))) := Blk.new _ _ _
      have BL' : Hid (Blk (w.heap.size) 65 ((lnC id t0 t1 t2 t3 t4 t5 pa pn pc b0 b1 b2 b3 b4 b5 b6 b7 b8 b9 b10 b11 s z k0 k1 k2 k3 k4 k5 k6 k7 k8 k9 k10 k11 k12 d0 d1 d2 l0 l1 l2 l3 l4 y e0 e1)) (W.alloc (.cells #[.int .i64 d0, .int .i64 d1, .int .i64 d2] 2))) := BL.out.below bX
      have BW' : Hid (Below w.heap.size w (W.alloc (.cells #[.int .i64 d0, .int .i64 d1, .int .i64 d2] 2))) := below_trans BW.out bX
      have D0' : Hid (RdB (W.alloc (.cells #[.int .i64 d0, .int .i64 d1, .int .i64 d2] 2)) (.slice sa0 sn0 sc0) (r0)) := D0.out.later bX
      have D1' : Hid (RdB (W.alloc (.cells #[.int .i64 d0, .int .i64 d1, .int .i64 d2] 2)) (.slice sa1 sn1 sc1) (r1)) := D1.out.later bX
      have D2' : Hid (RdB (W.alloc (.cells #[.int .i64 d0, .int .i64 d1, .int .i64 d2] 2)) (.slice sa2 sn2 sc2) (r2)) := D2.out.later bX
      have G1' : Hid (Blk F1 2 [.int .i64 e0, .int .i64 e1] (W.alloc (.cells #[.int .i64 d0, .int .i64 d1, .int .i64 d2] 2))) := G1.out.below bX
      refine hK.out _ _ BL'.out (fun _ => ?_)
      try simp only [List.setIfInBounds_toArray, List.set_cons_zero, List.set_cons_succ]
      exact hG.2 _ _ _ _ (Q3_01 _ _ _ _ _ _ _ _ _ _ _ _ BL' BW' D0' D1' D2' G0' G1')
  have Q3_ : ∀ (W : World) (sa0 : Option Addr) (sn0 sc0 : Nat) (sa1 : Option Addr) (sn1 sc1 : Nat) (sa2 : Option Addr) (sn2 sc2 : Nat), Hid (Blk (w.heap.size) 65 ((lnC id t0 t1 t2 t3 t4 t5 pa pn pc b0 b1 b2 b3 b4 b5 b6 b7 b8 b9 b10 b11 s z k0 k1 k2 k3 k4 k5 k6 k7 k8 k9 k10 k11 k12 d0 d1 d2 l0 l1 l2 l3 l4 y e0 e1)) W) → Hid (Below w.heap.size w W) → Hid (RdB W (.slice sa0 sn0 sc0) (r0)) → Hid (RdB W (.slice sa1 sn1 sc1) (r1)) → Hid (RdB W (.slice sa2 sn2 sc2) (r2)) → G 11 #[true, true, true, true, true, true, true, true, true, true, true, true, false, true, true, false, true, true, true, true, true, true, false, false, true, true, false, true, true, false, true, true, true, true, false, false, false, false, false] ⟨#[.agg (lnC id t0 t1 t2 t3 t4 t5 pa pn pc b0 b1 b2 b3 b4 b5 b6 b7 b8 b9 b10 b11 s z k0 k1 k2 k3 k4 k5 k6 k7 k8 k9 k10 k11 k12 d0 d1 d2 l0 l1 l2 l3 l4 y e0 e1).toArray, .pointer (some ⟨w.heap.size, 0, none⟩), .slice none 0 0, .pointer (some ⟨w.heap.size, 0, none⟩), .int .i64 id, .slice sa0 sn0 sc0, .pointer (some ⟨w.heap.size, 1, none⟩), .agg ([.int .i64 t0, .int .i64 t1, .int .i64 t2, .int .i64 t3, .int .i64 t4, .int .i64 t5]).toArray, .slice sa1 sn1 sc1, .pointer (some ⟨w.heap.size, 7, none⟩), .slice pa pn pc, .slice sa2 sn2 sc2, .pointer (some ⟨w.heap.size, 8, none⟩), .pointer (some ⟨w.heap.size, 8, none⟩), .slice (some ⟨w.heap.size, 8, none⟩) 12 12, undef, .pointer (some ⟨w.heap.size, 20, none⟩), .agg ([.int .i64 s, .bool z, .int .i64 k0, .int .i64 k1, .int .i64 k2, .int .i64 k3, .int .i64 k4, .int .i64 k5, .int .i64 k6, .int .i64 k7, .int .i64 k8, .int .i64 k9, .int .i64 k10, .int .i64 k11, .int .i64 k12]).toArray, undef, .pointer (some ⟨w.heap.size, 35, none⟩), .int .i64 d0, .pointer (some ⟨w.heap.size, 36, none⟩), .int .i64 d1, .pointer (some ⟨w.heap.size, 37, none⟩), .int .i64 d2, undef, undef, .pointer (some ⟨w.heap.size, 38, none⟩), .agg ([.int .i64 l0, .int .i64 l1, .int .i64 l2, .int .i64 l3, .int .i64 l4]).toArray, undef, .pointer (some ⟨w.heap.size, 43, none⟩), .bool y, undef, .pointer (some ⟨w.heap.size, 44, none⟩), .int .i64 e0, .pointer (some ⟨w.heap.size, 45, none⟩), .int .i64 e1, undef, undef, undef, undef], []⟩ W := by
    intro W sa0 sn0 sc0 sa1 sn1 sc1 sa2 sn2 sc2 BL BW D0 D1 D2
    refine hG.1 _ _ _ _ ?_
    refine wpAnyH_ready (rs := [12, 22, 34]) (by kernel_rfl) (by simp) ?_
    refine AllReadyH.cons (o := { dst := some 15, op := Op.call { callee := Callee.value (Operand.func 39), args := #[Operand.tmp 14], argTypes := #[110] }, type := 33, pos := "encode.go:63", after := #[{ on := 11, ground := Ground.data }, { on := 8, ground := Ground.chain }], guard := none }) rfl (fun K hK => ?_) (AllReadyH.cons (o := { dst := some 25, op := Op.buildSlice 110 3 #[(0, Operand.tmp 20), (1, Operand.tmp 22), (2, Operand.tmp 24)], type := 110, pos := "encode.go:59", after := #[{ on := 17, ground := Ground.data }, { on := 19, ground := Ground.data }, { on := 21, ground := Ground.data }], guard := none }) rfl (fun K hK => ?_) (AllReadyH.cons (o := { dst := some 37, op := Op.buildSlice 110 2 #[(0, Operand.tmp 34), (1, Operand.tmp 36)], type := 110, pos := "encode.go:59", after := #[{ on := 31, ground := Ground.data }, { on := 33, ground := Ground.data }], guard := none }) rfl (fun K hK => ?_) AllReadyH.nil))
    · go_simp
      refine (C3.out W BL.out).mono ?_
      rintro e W2 ⟨v, rfl, rv, bX⟩
      obtain ⟨sa3, sc3, ev, -, -⟩ := (RowV.rd rv).len
      generalize ((r3).map bv).length = sn3 at ev
      subst ev
      have BL' : Hid (Blk (w.heap.size) 65 ((lnC id t0 t1 t2 t3 t4 t5 pa pn pc b0 b1 b2 b3 b4 b5 b6 b7 b8 b9 b10 b11 s z k0 k1 k2 k3 k4 k5 k6 k7 k8 k9 k10 k11 k12 d0 d1 d2 l0 l1 l2 l3 l4 y e0 e1)) W2) := BL.out.below bX
      have BW' : Hid (Below w.heap.size w W2) := below_trans BW.out bX
      have D0' : Hid (RdB W2 (.slice sa0 sn0 sc0) (r0)) := D0.out.later bX
      have D1' : Hid (RdB W2 (.slice sa1 sn1 sc1) (r1)) := D1.out.later bX
      have D2' : Hid (RdB W2 (.slice sa2 sn2 sc2) (r2)) := D2.out.later bX
      have D3' : Hid (RdB W2 (.slice sa3 sn3 sc3) (r3)) := RowV.rd rv
      refine hK.out _ _ BL'.out (fun _ => ?_)
      try simp only [List.setIfInBounds_toArray, List.set_cons_zero, List.set_cons_succ]
      exact hG.2 _ _ _ _ (Q4_ W2 _ _ _ _ _ _ _ _ _ _ _ _ BL' BW' D0' D1' D2' D3')
    · go_simp
      have bX := below_alloc W (.cells #[.int .i64 d0, .int .i64 d1, .int .i64 d2] 2)
      have G0' : Hid (Blk W.heap.size 2 [.int .i64 d0, .int .i64 d1, .int .i64 d2] (W.alloc (.cells #[.int .i64 d0, .int .i64 d1, .int .i64 d2] 2))) := Blk.new _ _ _
      have BL' : Hid (Blk (w.heap.size) 65 ((lnC id t0 t1 t2 t3 t4 t5 pa pn pc b0 b1 b2 b3 b4 b5 b6 b7 b8 b9 b10 b11 s z k0 k1 k2 k3 k4 k5 k6 k7 k8 k9 k10 k11 k12 d0 d1 d2 l0 l1 l2 l3 l4 y e0 e1)) (W.alloc (.cells #[.int .i64 d0, .int .i64 d1, .int .i64 d2] 2))) := BL.out.below bX
      have BW' : Hid (Below w.heap.size w (W.alloc (.cells #[.int .i64 d0, .int .i64 d1, .int .i64 d2] 2))) := below_trans BW.out bX
      have D0' : Hid (RdB (W.alloc (.cells #[.int .i64 d0, .int .i64 d1, .int .i64 d2] 2)) (.slice sa0 sn0 sc0) (r0)) := D0.out.later bX
      have D1' : Hid (RdB (W.alloc (.cells #[.int .i64 d0, .int .i64 d1, .int .i64 d2] 2)) (.slice sa1 sn1 sc1) (r1)) := D1.out.later bX
      have D2' : Hid (RdB (W.alloc (.cells #[.int .i64 d0, .int .i64 d1, .int .i64 d2] 2)) (.slice sa2 sn2 sc2) (r2)) := D2.out.later bX
      refine hK.out _ _ BL'.out (fun _ => ?_)
      try simp only [List.setIfInBounds_toArray, List.set_cons_zero, List.set_cons_succ]
      exact hG.2 _ _ _ _ (Q3_0 _ _ _ _ _ _ _ _ _ _ _ BL' BW' D0' D1' D2' G0')
    · go_simp
      have bX := below_alloc W (.cells #[.int .i64 e0, .int .i64 e1] 2)
      have G1' : Hid (Blk W.heap.size 2 [.int .i64 e0, .int .i64 e1] (W.alloc (.cells #[.int .i64 e0, .int .i64 e1] 2))) := Blk.new _ _ _
      have BL' : Hid (Blk (w.heap.size) 65 ((lnC id t0 t1 t2 t3 t4 t5 pa pn pc b0 b1 b2 b3 b4 b5 b6 b7 b8 b9 b10 b11 s z k0 k1 k2 k3 k4 k5 k6 k7 k8 k9 k10 k11 k12 d0 d1 d2 l0 l1 l2 l3 l4 y e0 e1)) (W.alloc (.cells #[.int .i64 e0, .int .i64 e1] 2))) := BL.out.below bX
      have BW' : Hid (Below w.heap.size w (W.alloc (.cells #[.int .i64 e0, .int .i64 e1] 2))) := below_trans BW.out bX
      have D0' : Hid (RdB (W.alloc (.cells #[.int .i64 e0, .int .i64 e1] 2)) (.slice sa0 sn0 sc0) (r0)) := D0.out.later bX
      have D1' : Hid (RdB (W.alloc (.cells #[.int .i64 e0, .int .i64 e1] 2)) (.slice sa1 sn1 sc1) (r1)) := D1.out.later bX
      have D2' : Hid (RdB (W.alloc (.cells #[.int .i64 e0, .int .i64 e1] 2)) (.slice sa2 sn2 sc2) (r2)) := D2.out.later bX
      refine hK.out _ _ BL'.out (fun _ => ?_)
      try simp only [List.setIfInBounds_toArray, List.set_cons_zero, List.set_cons_succ]
      exact hG.2 _ _ _ _ (Q3_1 _ _ _ _ _ _ _ _ _ _ _ BL' BW' D0' D1' D2' G1')
  have Q2_01 : ∀ (W : World) (sa0 : Option Addr) (sn0 sc0 : Nat) (sa1 : Option Addr) (sn1 sc1 : Nat) (F0 : Nat) (F1 : Nat), Hid (Blk (w.heap.size) 65 ((lnC id t0 t1 t2 t3 t4 t5 pa pn pc b0 b1 b2 b3 b4 b5 b6 b7 b8 b9 b10 b11 s z k0 k1 k2 k3 k4 k5 k6 k7 k8 k9 k10 k11 k12 d0 d1 d2 l0 l1 l2 l3 l4 y e0 e1)) W) → Hid (Below w.heap.size w W) → Hid (RdB W (.slice sa0 sn0 sc0) (r0)) → Hid (RdB W (.slice sa1 sn1 sc1) (r1)) → Hid (Blk F0 2 [.int .i64 d0, .int .i64 d1, .int .i64 d2] W) → Hid (Blk F1 2 [.int .i64 e0, .int .i64 e1] W) → G 10 #[true, true, true, true, true, true, true, true, false, true, true, true, false, true, true, false, true, true, true, true, true, true, true, false, true, true, false, true, true, false, true, true, true, true, true, false, false, false, false] ⟨#[.agg (lnC id t0 t1 t2 t3 t4 t5 pa pn pc b0 b1 b2 b3 b4 b5 b6 b7 b8 b9 b10 b11 s z k0 k1 k2 k3 k4 k5 k6 k7 k8 k9 k10 k11 k12 d0 d1 d2 l0 l1 l2 l3 l4 y e0 e1).toArray, .pointer (some ⟨w.heap.size, 0, none⟩), .slice none 0 0, .pointer (some ⟨w.heap.size, 0, none⟩), .int .i64 id, .slice sa0 sn0 sc0, .pointer (some ⟨w.heap.size, 1, none⟩), .agg ([.int .i64 t0, .int .i64 t1, .int .i64 t2, .int .i64 t3, .int .i64 t4, .int .i64 t5]).toArray, .slice sa1 sn1 sc1, .pointer (some ⟨w.heap.size, 7, none⟩), .slice pa pn pc, undef, .pointer (some ⟨w.heap.size, 8, none⟩), .pointer (some ⟨w.heap.size, 8, none⟩), .slice (some ⟨w.heap.size, 8, none⟩) 12 12, undef, .pointer (some ⟨w.heap.size, 20, none⟩), .agg ([.int .i64 s, .bool z, .int .i64 k0, .int .i64 k1, .int .i64 k2, .int .i64 k3, .int .i64 k4, .int .i64 k5, .int .i64 k6, .int .i64 k7, .int .i64 k8, .int .i64 k9, .int .i64 k10, .int .i64 k11, .int .i64 k12]).toArray, undef, .pointer (some ⟨w.heap.size, 35, none⟩), .int .i64 d0, .pointer (some ⟨w.heap.size, 36, none⟩), .int .i64 d1, .pointer (some ⟨w.heap.size, 37, none⟩), .int .i64 d2, .slice (some ⟨F0, 0, none⟩) 3 3, undef, .pointer (some ⟨w.heap.size, 38, none⟩), .agg ([.int .i64 l0, .int .i64 l1, .int .i64 l2, .int .i64 l3, .int .i64 l4]).toArray, undef, .pointer (some ⟨w.heap.size, 43, none⟩), .bool y, undef, .pointer (some ⟨w.heap.size, 44, none⟩), .int .i64 e0, .pointer (some ⟨w.heap.size, 45, none⟩), .int .i64 e1, .slice (some ⟨F1, 0, none⟩) 2 2, undef, undef, undef], []⟩ W := by
    intro W sa0 sn0 sc0 sa1 sn1 sc1 F0 F1 BL BW D0 D1 G0 G1
    refine hG.1 _ _ _ _ ?_
    refine wpAnyH_ready (rs := [8]) (by kernel_rfl) (by simp) ?_
    refine AllReadyH.cons (o := { dst := some 11, op := Op.call { callee := Callee.value (Operand.func 56), args := #[Operand.tmp 10, Operand.func 57], argTypes := #[56, 109] }, type := 33, pos := "encode.go:62", after := #[{ on := 7, ground := Ground.data }, { on := 5, ground := Ground.chain }], guard := none }) rfl (fun K hK => ?_) AllReadyH.nil
    go_simp
    refine (C2.out W BW.out).mono ?_
    rintro e W2 ⟨v, rfl, rv, bX⟩
    obtain ⟨sa2, sc2, ev, -, -⟩ := (RowV.rd rv).len
    generalize ((r2).map bv).length = sn2 at ev
    subst ev
    have BL' : Hid (Blk (w.heap.size) 65 ((lnC id t0 t1 t2 t3 t4 t5 pa pn pc b0 b1 b2 b3 b4 b5 b6 b7 b8 b9 b10 b11 s z k0 k1 k2 k3 k4 k5 k6 k7 k8 k9 k10 k11 k12 d0 d1 d2 l0 l1 l2 l3 l4 y e0 e1)) W2) := BL.out.below bX
    have BW' : Hid (Below w.heap.size w W2) := below_trans BW.out bX
    have D0' : Hid (RdB W2 (.slice sa0 sn0 sc0) (r0)) := D0.out.later bX
    have D1' : Hid (RdB W2 (.slice sa1 sn1 sc1) (r1)) := D1.out.later bX
    have D2' : Hid (RdB W2 (.slice sa2 sn2 sc2) (r2)) := RowV.rd rv
    have G0' : Hid (Blk F0 2 [.int .i64 d0, .int .i64 d1, .int .i64 d2] W2) := G0.out.below bX
    have G1' : Hid (Blk F1 2 [.int .i64 e0, .int .i64 e1] W2) := G1.out.below bX
    refine hK.out _ _ BL'.out (fun _ => ?_)
    try simp only [List.setIfInBounds_toArray, List.set_cons_zero, List.set_cons_succ]
    exact hG.2 _ _ _ _ (Q3_01 W2 _ _ _ _ _ _ _ _ _ _ _ BL' BW' D0' D1' D2' G0' G1')
  have Q2_0 : ∀ (W : World) (sa0 : Option Addr) (sn0 sc0 : Nat) (sa1 : Option Addr) (sn1 sc1 : Nat) (F0 : Nat), Hid (Blk (w.heap.size) 65 ((lnC id t0 t1 t2 t3 t4 t5 pa pn pc b0 b1 b2 b3 b4 b5 b6 b7 b8 b9 b10 b11 s z k0 k1 k2 k3 k4 k5 k6 k7 k8 k9 k10 k11 k12 d0 d1 d2 l0 l1 l2 l3 l4 y e0 e1)) W) → Hid (Below w.heap.size w W) → Hid (RdB W (.slice sa0 sn0 sc0) (r0)) → Hid (RdB W (.slice sa1 sn1 sc1) (r1)) → Hid (Blk F0 2 [.int .i64 d0, .int .i64 d1, .int .i64 d2] W) → G 11 #[true, true, true, true, true, true, true, true, false, true, true, true, false, true, true, false, true, true, true, true, true, true, true, false, true, true, false, true, true, false, true, true, true, true, false, false, false, false, false] ⟨#[.agg (lnC id t0 t1 t2 t3 t4 t5 pa pn pc b0 b1 b2 b3 b4 b5 b6 b7 b8 b9 b10 b11 s z k0 k1 k2 k3 k4 k5 k6 k7 k8 k9 k10 k11 k12 d0 d1 d2 l0 l1 l2 l3 l4 y e0 e1).toArray, .pointer (some ⟨w.heap.size, 0, none⟩), .slice none 0 0, .pointer (some ⟨w.heap.size, 0, none⟩), .int .i64 id, .slice sa0 sn0 sc0, .pointer (some ⟨w.heap.size, 1, none⟩), .agg ([.int .i64 t0, .int .i64 t1, .int .i64 t2, .int .i64 t3, .int .i64 t4, .int .i64 t5]).toArray, .slice sa1 sn1 sc1, .pointer (some ⟨w.heap.size, 7, none⟩), .slice pa pn pc, undef, .pointer (some ⟨w.heap.size, 8, none⟩), .pointer (some ⟨w.heap.size, 8, none⟩), .slice (some ⟨w.heap.size, 8, none⟩) 12 12, undef, .pointer (some ⟨w.heap.size, 20, none⟩), .agg ([.int .i64 s, .bool z, .int .i64 k0, .int .i64 k1, .int .i64 k2, .int .i64 k3, .int .i64 k4, .int .i64 k5, .int .i64 k6, .int .i64 k7, .int .i64 k8, .int .i64 k9, .int .i64 k10, .int .i64 k11, .int .i64 k12]).toArray, undef, .pointer (some ⟨w.heap.size, 35, none⟩), .int .i64 d0, .pointer (some ⟨w.heap.size, 36, none⟩), .int .i64 d1, .pointer (some ⟨w.heap.size, 37, none⟩), .int .i64 d2, .slice (some ⟨F0, 0, none⟩) 3 3, undef, .pointer (some ⟨w.heap.size, 38, none⟩), .agg ([.int .i64 l0, .int .i64 l1, .int .i64 l2, .int .i64 l3, .int .i64 l4]).toArray, undef, .pointer (some ⟨w.heap.size, 43, none⟩), .bool y, undef, .pointer (some ⟨w.heap.size, 44, none⟩), .int .i64 e0, .pointer (some ⟨w.heap.size, 45, none⟩), .int .i64 e1, undef, undef, undef, undef], []⟩ W := by
    intro W sa0 sn0 sc0 sa1 sn1 sc1 F0 BL BW D0 D1 G0
    refine hG.1 _ _ _ _ ?_
    refine wpAnyH_ready (rs := [8, 34]) (by kernel_rfl) (by simp) ?_
    refine AllReadyH.cons (o := { dst := some 11, op := Op.call { callee := Callee.value (Operand.func 56), args := #[Operand.tmp 10, Operand.func 57], argTypes := #[56, 109] }, type := 33, pos := "encode.go:62", after := #[{ on := 7, ground := Ground.data }, { on := 5, ground := Ground.chain }], guard := none }) rfl (fun K hK => ?_) (AllReadyH.cons (o := { dst := some 37, op := Op.buildSlice 110 2 #[(0, Operand.tmp 34), (1, Operand.tmp 36)], type := 110, pos := "encode.go:59", after := #[{ on := 31, ground := Ground.data }, { on := 33, ground := Ground.data }], guard := none }) rfl (fun K hK => ?_) AllReadyH.nil)
    · go_simp
      refine (C2.out W BW.out).mono ?_
      rintro e W2 ⟨v, rfl, rv, bX⟩
      obtain ⟨sa2, sc2, ev, -, -⟩ := (RowV.rd rv).len
      generalize ((r2).map bv).length = sn2 at ev
      subst ev
      have BL' : Hid (Blk (w.heap.size) 65 ((lnC id t0 t1 t2 t3 t4 t5 pa pn pc b0 b1 b2 b3 b4 b5 b6 b7 b8 b9 b10 b11 s z k0 k1 k2 k3 k4 k5 k6 k7 k8 k9 k10 k11 k12 d0 d1 d2 l0 l1 l2 l3 l4 y e0 e1)) W2) := BL.out.below bX
      have BW' : Hid (Below w.heap.size w W2) := below_trans BW.out bX
      have D0' : Hid (RdB W2 (.slice sa0 sn0 sc0) (r0)) := D0.out.later bX
      have D1' : Hid (RdB W2 (.slice sa1 sn1 sc1) (r1)) := D1.out.later bX
      have D2' : Hid (RdB W2 (.slice sa2 sn2 sc2) (r2)) := RowV.rd rv
      have G0' : Hid (Blk F0 2 [.int .i64 d0, .int .i64 d1, .int .i64 d2] W2) := G0.out.below bX
      refine hK.out _ _ BL'.out (fun _ => ?_)
      try simp only [List.setIfInBounds_toArray, List.set_cons_zero, List.set_cons_succ]
      exact hG.2 _ _ _ _ (Q3_0 W2 _ _ _ _ _ _ _ _ _ _ BL' BW' D0' D1' D2' G0')
    · go_simp
      have bX := below_alloc W (.cells #[.int .i64 e0, .int .i64 e1] 2)
      have G1' : Hid (Blk W.heap.size 2 [.int .i64 e0, .int .i64 e1] (W.alloc (.cells #[.int .i64 e0, .int .i64 e1] 2))) := Blk.new _ _ _
      have BL' : Hid (Blk (w.heap.size) 65 ((lnC id t0 t1 t2 t3 t4 t5 pa pn pc b0 b1 b2 b3 b4 b5 b6 b7 b8 b9 b10 b11 s z k0 k1 k2 k3 k4 k5 k6 k7 k8 k9 k10 k11 k12 d0 d1 d2 l0 l1 l2 l3 l4 y e0 e1)) (W.alloc (.cells #[.int .i64 e0, .int .i64 e1] 2))) := BL.out.below bX
      have BW' : Hid (Below w.heap.size w (W.alloc (.cells #[.int .i64 e0, .int .i64 e1] 2))) := below_trans BW.out bX
      have D0' : Hid (RdB (W.alloc (.cells #[.int .i64 e0, .int .i64 e1] 2)) (.slice sa0 sn0 sc0) (r0)) := D0.out.later bX
      have D1' : Hid (RdB (W.alloc (.cells #[.int .i64 e0, .int .i64 e1] 2)) (.slice sa1 sn1 sc1) (r1)) := D1.out.later bX
      have G0' : Hid (Blk F0 2 [.int .i64 d0, .int .i64 d1, .int .i64 d2] (W.alloc (.cells #[.int .i64 e0, .int .i64 e1] 2))) := G0.out.below bX
      refine hK.out _ _ BL'.out (fun _ => ?_)
      try simp only [List.setIfInBounds_toArray, List.set_cons_zero, List.set_cons_succ]
      exact hG.2 _ _ _ _ (Q2_01 _ _ _ _ _ _ _ _ _ BL' BW' D0' D1' G0' G1')
  have Q2_1 : ∀ (W : World) (sa0 : Option Addr) (sn0 sc0 : Nat) (sa1 : Option Addr) (sn1 sc1 : Nat) (F1 : Nat), Hid (Blk (w.heap.size) 65 ((lnC id t0 t1 t2 t3 t4 t5 pa pn pc b0 b1 b2 b3 b4 b5 b6 b7 b8 b9 b10 b11 s z k0 k1 k2 k3 k4 k5 k6 k7 k8 k9 k10 k11 k12 d0 d1 d2 l0 l1 l2 l3 l4 y e0 e1)) W) → Hid (Below w.heap.size w W) → Hid (RdB W (.slice sa0 sn0 sc0) (r0)) → Hid (RdB W (.slice sa1 sn1 sc1) (r1)) → Hid (Blk F1 2 [.int .i64 e0, .int .i64 e1] W) → G 11 #[true, true, true, true, true, true, true, true, false, true, true, true, false, true, true, false, true, true, true, true, true, true, false, false, true, true, false, true, true, false, true, true, true, true, true, false, false, false, false] ⟨#[.agg (lnC id t0 t1 t2 t3 t4 t5 pa pn pc b0 b1 b2 b3 b4 b5 b6 b7 b8 b9 b10 b11 s z k0 k1 k2 k3 k4 k5 k6 k7 k8 k9 k10 k11 k12 d0 d1 d2 l0 l1 l2 l3 l4 y e0 e1).toArray, .pointer (some ⟨w.heap.size, 0, none⟩), .slice none 0 0, .pointer (some ⟨w.heap.size, 0, none⟩), .int .i64 id, .slice sa0 sn0 sc0, .pointer (some ⟨w.heap.size, 1, none⟩), .agg ([.int .i64 t0, .int .i64 t1, .int .i64 t2, .int .i64 t3, .int .i64 t4, .int .i64 t5]).toArray, .slice sa1 sn1 sc1, .pointer (some ⟨w.heap.size, 7, none⟩), .slice pa pn pc, undef, .pointer (some ⟨w.heap.size, 8, none⟩), .pointer (some ⟨w.heap.size, 8, none⟩), .slice (some ⟨w.heap.size, 8, none⟩) 12 12, undef, .pointer (some ⟨w.heap.size, 20, none⟩), .agg ([.int .i64 s, .bool z, .int .i64 k0, .int .i64 k1, .int .i64 k2, .int .i64 k3, .int .i64 k4, .int .i64 k5, .int .i64 k6, .int .i64 k7, .int .i64 k8, .int .i64 k9, .int .i64 k10, .int .i64 k11, .int .i64 k12]).toArray, undef, .pointer (some ⟨w.heap.size, 35, none⟩), .int .i64 d0, .pointer (some ⟨w.heap.size, 36, none⟩), .int .i64 d1, .pointer (some ⟨w.heap.size, 37, none⟩), .int .i64 d2, undef, undef, .pointer (some ⟨w.heap.size, 38, none⟩), .agg ([.int .i64 l0, .int .i64 l1, .int .i64 l2, .int .i64 l3, .int .i64 l4]).toArray, undef, .pointer (some ⟨w.heap.size, 43, none⟩), .bool y, undef, .pointer (some ⟨w.heap.size, 44, none⟩), .int .i64 e0, .pointer (some ⟨w.heap.size, 45, none⟩), .int .i64 e1, .slice (some ⟨F1, 0, none⟩) 2 2, undef, undef, undef], []⟩ W := by
    intro W sa0 sn0 sc0 sa1 sn1 sc1 F1 BL BW D0 D1 G1
    refine hG.1 _ _ _ _ ?_
    refine wpAnyH_ready (rs := [8, 22]) (by kernel_rfl) (by simp) ?_
    refine AllReadyH.cons (o := { dst := some 11, op := Op.call { callee := Callee.value (Operand.func 56), args := #[Operand.tmp 10, Operand.func 57], argTypes := #[56, 109] }, type := 33, pos := "encode.go:62", after := #[{ on := 7, ground := Ground.data }, { on := 5, ground := Ground.chain }], guard := none }) rfl (fun K hK => ?_) (AllReadyH.cons (o := { dst := some 25, op := Op.buildSlice 110 3 #[(0, Operand.tmp 20), (1, Operand.tmp 22), (2, Operand.tmp 24)], type := 110, pos := "encode.go:59", after := #[{ on := 17, ground := Ground.data }, { on := 19, ground := Ground.data }, { on := 21, ground := Ground.data }], guard := none }) rfl (fun K hK => ?_) AllReadyH.nil)
    · go_simp
      refine (C2.out W BW.out).mono ?_
      rintro e W2 ⟨v, rfl, rv, bX⟩
      obtain ⟨sa2, sc2, ev, -, -⟩ := (RowV.rd rv).len
      generalize ((r2).map bv).length = sn2 at ev
      subst ev
      have BL' : Hid (Blk (w.heap.size) 65 ((lnC id t0 t1 t2 t3 t4 t5 pa pn pc b0 b1 b2 b3 b4 b5 b6 b7 b8 b9 b10 b11 s z k0 k1 k2 k3 k4 k5 k6 k7 k8 k9 k10 k11 k12 d0 d1 d2 l0 l1 l2 l3 l4 y e0 e1)) W2) := BL.out.below bX
      have BW' : Hid (Below w.heap.size w W2) := below_trans BW.out bX
      have D0' : Hid (RdB W2 (.slice sa0 sn0 sc0) (r0)) := D0.out.later bX
      have D1' : Hid (RdB W2 (.slice sa1 sn1 sc1) (r1)) := D1.out.later bX
      have D2' : Hid (RdB W2 (.slice sa2 sn2 sc2) (r2)) := RowV.rd rv
      have G1' : Hid (Blk F1 2 [.int .i64 e0, .int .i64 e1] W2) := G1.out.below bX
      refine hK.out _ _ BL'.out (fun _ => ?_)
      try simp only [List.setIfInBounds_toArray, List.set_cons_zero, List.set_cons_succ]
      exact hG.2 _ _ _ _ (Q3_1 W2 _ _ _ _ _ _ _ _ _ _ BL' BW' D0' D1' D2' G1')
    · go_simp
      have bX := below_alloc W (.cells #[.int .i64 d0, .int .i64 d1, .int .i64 d2] 2)
      have G0' : Hid (Blk W.heap.size 2 [.int .i64 d0, .int .i64 d1, .int .i64 d2] (W.alloc (.cells #[.int .i64 d0, .int .i64 d1, .int .i64 d2] 2))) := Blk.new _ _ _
      have BL' : Hid (Blk (w.heap.size) 65 ((lnC id t0 t1 t2 t3 t4 t5 pa pn pc b0 b1 b2 b3 b4 b5 b6 b7 b8 b9 b10 b11 s z k0 k1 k2 k3 k4 k5 k6 k7 k8 k9 k10 k11 k12 d0 d1 d2 l0 l1 l2 l3 l4 y e0 e1)) (W.alloc (.cells #[.int .i64 d0, .int .i64 d1, .int .i64 d2] 2))) := BL.out.below bX
      have BW' : Hid (Below w.heap.size w (W.alloc (.cells #[.int .i64 d0, .int .i64 d1, .int .i64 d2] 2))) := below_trans BW.out bX
      have D0' : Hid (RdB (W.alloc (.cells #[.int .i64 d0, .int .i64 d1, .int .i64 d2] 2)) (.slice sa0 sn0 sc0) (r0)) := D0.out.later bX
      have D1' : Hid (RdB (W.alloc (.cells #[.int .i64 d0, .int .i64 d1, .int .i64 d2] 2)) (.slice sa1 sn1 sc1) (r1)) := D1.out.later bX
      have G1' : Hid (Blk F1 2 [.int .i64 e0, .int .i64 e1] (W.alloc (.cells #[.int .i64 d0, .int .i64 d1, .int .i64 d2] 2))) := G1.out.below bX
      refine hK.out _ _ BL'.out (fun _ => ?_)
      try simp only [List.setIfInBounds_toArray, List.set_cons_zero, List.set_cons_succ]
      exact hG.2 _ _ _ _ (Q2_01 _ _ _ _ _ _ _ _ _ BL' BW' D0' D1' G0' G1')
  have Q2_ : ∀ (W : World) (sa0 : Option Addr) (sn0 sc0 : Nat) (sa1 : Option Addr) (sn1 sc1 : Nat), Hid (Blk (w.heap.size) 65 ((lnC id t0 t1 t2 t3 t4 t5 pa pn pc b0 b1 b2 b3 b4 b5 b6 b7 b8 b9 b10 b11 s z k0 k1 k2 k3 k4 k5 k6 k7 k8 k9 k10 k11 k12 d0 d1 d2 l0 l1 l2 l3 l4 y e0 e1)) W) → Hid (Below w.heap.size w W) → Hid (RdB W (.slice sa0 sn0 sc0) (r0)) → Hid (RdB W (.slice sa1 sn1 sc1) (r1)) → G 12 #[true, true, true, true, true, true, true, true, false, true, true, true, false, true, true, false, true, true, true, true, true, true, false, false, true, true, false, true, true, false, true, true, true, true, false, false, false, false, false] ⟨#[.agg (lnC id t0 t1 t2 t3 t4 t5 pa pn pc b0 b1 b2 b3 b4 b5 b6 b7 b8 b9 b10 b11 s z k0 k1 k2 k3 k4 k5 k6 k7 k8 k9 k10 k11 k12 d0 d1 d2 l0 l1 l2 l3 l4 y e0 e1).toArray, .pointer (some ⟨w.heap.size, 0, none⟩), .slice none 0 0, .pointer (some ⟨w.heap.size, 0, none⟩), .int .i64 id, .slice sa0 sn0 sc0, .pointer (some ⟨w.heap.size, 1, none⟩), .agg ([.int .i64 t0, .int .i64 t1, .int .i64 t2, .int .i64 t3, .int .i64 t4, .int .i64 t5]).toArray, .slice sa1 sn1 sc1, .pointer (some ⟨w.heap.size, 7, none⟩), .slice pa pn pc, undef, .pointer (some ⟨w.heap.size, 8, none⟩), .pointer (some ⟨w.heap.size, 8, none⟩), .slice (some ⟨w.heap.size, 8, none⟩) 12 12, undef, .pointer (some ⟨w.heap.size, 20, none⟩), .agg ([.int .i64 s, .bool z, .int .i64 k0, .int .i64 k1, .int .i64 k2, .int .i64 k3, .int .i64 k4, .int .i64 k5, .int .i64 k6, .int .i64 k7, .int .i64 k8, .int .i64 k9, .int .i64 k10, .int .i64 k11, .int .i64 k12]).toArray, undef, .pointer (some ⟨w.heap.size, 35, none⟩), .int .i64 d0, .pointer (some ⟨w.heap.size, 36, none⟩), .int .i64 d1, .pointer (some ⟨w.heap.size, 37, none⟩), .int .i64 d2, undef, undef, .pointer (some ⟨w.heap.size, 38, none⟩), .agg ([.int .i64 l0, .int .i64 l1, .int .i64 l2, .int .i64 l3, .int .i64 l4]).toArray, undef, .pointer (some ⟨w.heap.size, 43, none⟩), .bool y, undef, .pointer (some ⟨w.heap.size, 44, none⟩), .int .i64 e0, .pointer (some ⟨w.heap.size, 45, none⟩), .int .i64 e1, undef, undef, undef, undef], []⟩ W := by
    intro W sa0 sn0 sc0 sa1 sn1 sc1 BL BW D0 D1
    refine hG.1 _ _ _ _ ?_
    refine wpAnyH_ready (rs := [8, 22, 34]) (by kernel_rfl) (by simp) ?_
    refine AllReadyH.cons (o := { dst := some 11, op := Op.call { callee := Callee.value (Operand.func 56), args := #[Operand.tmp 10, Operand.func 57], argTypes := #[56, 109] }, type := 33, pos := "encode.go:62", after := #[{ on := 7, ground := Ground.data }, { on := 5, ground := Ground.chain }], guard := none }) rfl (fun K hK => ?_) (AllReadyH.cons (o := { dst := some 25, op := Op.buildSlice 110 3 #[(0, Operand.tmp 20), (1, Operand.tmp 22), (2, Operand.tmp 24)], type := 110, pos := "encode.go:59", after := #[{ on := 17, ground := Ground.data }, { on := 19, ground := Ground.data }, { on := 21, ground := Ground.data }], guard := none }) rfl (fun K hK => ?_) (AllReadyH.cons (o := { dst := some 37, op := Op.buildSlice 110 2 #[(0, Operand.tmp 34), (1, Operand.tmp 36)], type := 110, pos := "encode.go:59", after := #[{ on := 31, ground := Ground.data }, { on := 33, ground := Ground.data }], guard := none }) rfl (fun K hK => ?_) AllReadyH.nil))
    · go_simp
      refine (C2.out W BW.out).mono ?_
      rintro e W2 ⟨v, rfl, rv, bX⟩
      obtain ⟨sa2, sc2, ev, -, -⟩ := (RowV.rd rv).len
      generalize ((r2).map bv).length = sn2 at ev
      subst ev
      have BL' : Hid (Blk (w.heap.size) 65 ((lnC id t0 t1 t2 t3 t4 t5 pa pn pc b0 b1 b2 b3 b4 b5 b6 b7 b8 b9 b10 b11 s z k0 k1 k2 k3 k4 k5 k6 k7 k8 k9 k10 k11 k12 d0 d1 d2 l0 l1 l2 l3 l4 y e0 e1)) W2) := BL.out.below bX
      have BW' : Hid (Below w.heap.size w W2) := below_trans BW.out bX
      have D0' : Hid (RdB W2 (.slice sa0 sn0 sc0) (r0)) := D0.out.later bX
      have D1' : Hid (RdB W2 (.slice sa1 sn1 sc1) (r1)) := D1.out.later bX
      have D2' : Hid (RdB W2 (.slice sa2 sn2 sc2) (r2)) := RowV.rd rv
      refine hK.out _ _ BL'.out (fun _ => ?_)
      try simp only [List.setIfInBounds_toArray, List.set_cons_zero, List.set_cons_succ]
      exact hG.2 _ _ _ _ (Q3_ W2 _ _ _ _ _ _ _ _ _ BL' BW' D0' D1' D2')
    · go_simp
      have bX := below_alloc W (.cells #[.int .i64 d0, .int .i64 d1, .int .i64 d2] 2)
      have G0' : Hid (Blk W.heap.size 2 [.int .i64 d0, .int .i64 d1, .int .i64 d2] (W.alloc (.cells #[.int .i64 d0, .int .i64 d1, .int .i64 d2] 2))) := Blk.new _ _ _
      have BL' : Hid (Blk (w.heap.size) 65 ((lnC id t0 t1 t2 t3 t4 t5 pa pn pc b0 b1 b2 b3 b4 b5 b6 b7 b8 b9 b10 b11 s z k0 k1 k2 k3 k4 k5 k6 k7 k8 k9 k10 k11 k12 d0 d1 d2 l0 l1 l2 l3 l4 y e0 e1)) (W.alloc (.cells #[.int .i64 d0, .int .i64 d1, .int .i64 d2] 2))) := BL.out.below bX
      have BW' : Hid (Below w.heap.size w (W.alloc (.cells #[.int .i64 d0, .int .i64 d1, .int .i64 d2] 2))) := below_trans BW.out bX
      have D0' : Hid (RdB (W.alloc (.cells #[.int .i64 d0, .int .i64 d1, .int .i64 d2] 2)) (.slice sa0 sn0 sc0) (r0)) := D0.out.later bX
      have D1' : Hid (RdB (W.alloc (.cells #[.int .i64 d0, .int .i64 d1, .int .i64 d2] 2)) (.slice sa1 sn1 sc1) (r1)) := D1.out.later bX
      refine hK.out _ _ BL'.out (fun _ => ?_)
      try simp only [List.setIfInBounds_toArray, List.set_cons_zero, List.set_cons_succ]
      exact hG.2 _ _ _ _ (Q2_0 _ _ _ _ _ _ _ _ BL' BW' D0' D1' G0')
    · go_simp
      have bX := below_alloc W (.cells #[.int .i64 e0, .int .i64 e1] 2)
      have G1' : Hid (Blk W.heap.size 2 [.int .i64 e0, .int .i64 e1] (W.alloc (.cells #[.int .i64 e0, .int .i64 e1] 2))) := Blk.new _ _ _
      have BL' : Hid (Blk (w.heap.size) 65 ((lnC id t0 t1 t2 t3 t4 t5 pa pn pc b0 b1 b2 b3 b4 b5 b6 b7 b8 b9 b10 b11 s z k0 k1 k2 k3 k4 k5 k6 k7 k8 k9 k10 k11 k12 d0 d1 d2 l0 l1 l2 l3 l4 y e0 e1)) (W.alloc (.cells #[.int .i64 e0, .int .i64 e1] 2))) := BL.out.below bX
      have BW' : Hid (Below w.heap.size w (W.alloc (.cells #[.int .i64 e0, .int .i64 e1] 2))) := below_trans BW.out bX
      have D0' : Hid (RdB (W.alloc (.cells #[.int .i64 e0, .int .i64 e1] 2)) (.slice sa0 sn0 sc0) (r0)) := D0.out.later bX
      have D1' : Hid (RdB (W.alloc (.cells #[.int .i64 e0, .int .i64 e1] 2)) (.slice sa1 sn1 sc1) (r1)) := D1.out.later bX
      refine hK.out _ _ BL'.out (fun _ => ?_)
      try simp only [List.setIfInBounds_toArray, List.set_cons_zero, List.set_cons_succ]
      exact hG.2 _ _ _ _ (Q2_1 _ _ _ _ _ _ _ _ BL' BW' D0' D1' G1')
  have Q1_01 : ∀ (W : World) (sa0 : Option Addr) (sn0 sc0 : Nat) (F0 : Nat) (F1 : Nat), Hid (Blk (w.heap.size) 65 ((lnC id t0 t1 t2 t3 t4 t5 pa pn pc b0 b1 b2 b3 b4 b5 b6 b7 b8 b9 b10 b11 s z k0 k1 k2 k3 k4 k5 k6 k7 k8 k9 k10 k11 k12 d0 d1 d2 l0 l1 l2 l3 l4 y e0 e1)) W) → Hid (Below w.heap.size w W) → Hid (RdB W (.slice sa0 sn0 sc0) (r0)) → Hid (Blk F0 2 [.int .i64 d0, .int .i64 d1, .int .i64 d2] W) → Hid (Blk F1 2 [.int .i64 e0, .int .i64 e1] W) → G 11 #[true, true, true, true, true, false, true, true, false, true, true, true, false, true, true, false, true, true, true, true, true, true, true, false, true, true, false, true, true, false, true, true, true, true, true, false, false, false, false] ⟨#[.agg (lnC id t0 t1 t2 t3 t4 t5 pa pn pc b0 b1 b2 b3 b4 b5 b6 b7 b8 b9 b10 b11 s z k0 k1 k2 k3 k4 k5 k6 k7 k8 k9 k10 k11 k12 d0 d1 d2 l0 l1 l2 l3 l4 y e0 e1).toArray, .pointer (some ⟨w.heap.size, 0, none⟩), .slice none 0 0, .pointer (some ⟨w.heap.size, 0, none⟩), .int .i64 id, .slice sa0 sn0 sc0, .pointer (some ⟨w.heap.size, 1, none⟩), .agg ([.int .i64 t0, .int .i64 t1, .int .i64 t2, .int .i64 t3, .int .i64 t4, .int .i64 t5]).toArray, undef, .pointer (some ⟨w.heap.size, 7, none⟩), .slice pa pn pc, undef, .pointer (some ⟨w.heap.size, 8, none⟩), .pointer (some ⟨w.heap.size, 8, none⟩), .slice (some ⟨w.heap.size, 8, none⟩) 12 12, undef, .pointer (some ⟨w.heap.size, 20, none⟩), .agg ([.int .i64 s, .bool z, .int .i64 k0, .int .i64 k1, .int .i64 k2, .int .i64 k3, .int .i64 k4, .int .i64 k5, .int .i64 k6, .int .i64 k7, .int .i64 k8, .int .i64 k9, .int .i64 k10, .int .i64 k11, .int .i64 k12]).toArray, undef, .pointer (some ⟨w.heap.size, 35, none⟩), .int .i64 d0, .pointer (some ⟨w.heap.size, 36, none⟩), .int .i64 d1, .pointer (some ⟨w.heap.size, 37, none⟩), .int .i64 d2, .slice (some ⟨F0, 0, none⟩) 3 3, undef, .pointer (some ⟨w.heap.size, 38, none⟩), .agg ([.int .i64 l0, .int .i64 l1, .int .i64 l2, .int .i64 l3, .int .i64 l4]).toArray, undef, .pointer (some ⟨w.heap.size, 43, none⟩), .bool y, undef, .pointer (some ⟨w.heap.size, 44, none⟩), .int .i64 e0, .pointer (some ⟨w.heap.size, 45, none⟩), .int .i64 e1, .slice (some ⟨F1, 0, none⟩) 2 2, undef, undef, undef], []⟩ W := by
    intro W sa0 sn0 sc0 F0 F1 BL BW D0 G0 G1
    refine hG.1 _ _ _ _ ?_
    refine wpAnyH_ready (rs := [5]) (by kernel_rfl) (by simp) ?_
    refine AllReadyH.cons (o := { dst := some 8, op := Op.call { callee := Callee.value (Operand.func 55), args := #[Operand.tmp 7], argTypes := #[55] }, type := 33, pos := "encode.go:61", after := #[{ on := 4, ground := Ground.data }, { on := 2, ground := Ground.chain }], guard := none }) rfl (fun K hK => ?_) AllReadyH.nil
    go_simp
    refine (C1.out W).mono ?_
    rintro e W2 ⟨v, rfl, rv, bX⟩
    obtain ⟨sa1, sc1, ev, -, -⟩ := (RowV.rd rv).len
    generalize ((r1).map bv).length = sn1 at ev
    subst ev
    have BL' : Hid (Blk (w.heap.size) 65 ((lnC id t0 t1 t2 t3 t4 t5 pa pn pc b0 b1 b2 b3 b4 b5 b6 b7 b8 b9 b10 b11 s z k0 k1 k2 k3 k4 k5 k6 k7 k8 k9 k10 k11 k12 d0 d1 d2 l0 l1 l2 l3 l4 y e0 e1)) W2) := BL.out.below bX
    have BW' : Hid (Below w.heap.size w W2) := below_trans BW.out bX
    have D0' : Hid (RdB W2 (.slice sa0 sn0 sc0) (r0)) := D0.out.later bX
    have D1' : Hid (RdB W2 (.slice sa1 sn1 sc1) (r1)) := RowV.rd rv
    have G0' : Hid (Blk F0 2 [.int .i64 d0, .int .i64 d1, .int .i64 d2] W2) := G0.out.below bX
    have G1' : Hid (Blk F1 2 [.int .i64 e0, .int .i64 e1] W2) := G1.out.below bX
    refine hK.out _ _ BL'.out (fun _ => ?_)
    try simp only [List.setIfInBounds_toArray, List.set_cons_zero, List.set_cons_succ]
    exact hG.2 _ _ _ _ (Q2_01 W2 _ _ _ _ _ _ _ _ BL' BW' D0' D1' G0' G1')
  have Q1_0 : ∀ (W : World) (sa0 : Option Addr) (sn0 sc0 : Nat) (F0 : Nat), Hid (Blk (w.heap.size) 65 ((lnC id t0 t1 t2 t3 t4 t5 pa pn pc b0 b1 b2 b3 b4 b5 b6 b7 b8 b9 b10 b11 s z k0 k1 k2 k3 k4 k5 k6 k7 k8 k9 k10 k11 k12 d0 d1 d2 l0 l1 l2 l3 l4 y e0 e1)) W) → Hid (Below w.heap.size w W) → Hid (RdB W (.slice sa0 sn0 sc0) (r0)) → Hid (Blk F0 2 [.int .i64 d0, .int .i64 d1, .int .i64 d2] W) → G 12 #[true, true, true, true, true, false, true, true, false, true, true, true, false, true, true, false, true, true, true, true, true, true, true, false, true, true, false, true, true, false, true, true, true, true, false, false, false, false, false] ⟨#[.agg (lnC id t0 t1 t2 t3 t4 t5 pa pn pc b0 b1 b2 b3 b4 b5 b6 b7 b8 b9 b10 b11 s z k0 k1 k2 k3 k4 k5 k6 k7 k8 k9 k10 k11 k12 d0 d1 d2 l0 l1 l2 l3 l4 y e0 e1).toArray, .pointer (some ⟨w.heap.size, 0, none⟩), .slice none 0 0, .pointer (some ⟨w.heap.size, 0, none⟩), .int .i64 id, .slice sa0 sn0 sc0, .pointer (some ⟨w.heap.size, 1, none⟩), .agg ([.int .i64 t0, .int .i64 t1, .int .i64 t2, .int .i64 t3, .int .i64 t4, .int .i64 t5]).toArray, undef, .pointer (some ⟨w.heap.size, 7, none⟩), .slice pa pn pc, undef, .pointer (some ⟨w.heap.size, 8, none⟩), .pointer (some ⟨w.heap.size, 8, none⟩), .slice (some ⟨w.heap.size, 8, none⟩) 12 12, undef, .pointer (some ⟨w.heap.size, 20, none⟩), .agg ([.int .i64 s, .bool z, .int .i64 k0, .int .i64 k1, .int .i64 k2, .int .i64 k3, .int .i64 k4, .int .i64 k5, .int .i64 k6, .int .i64 k7, .int .i64 k8, .int .i64 k9, .int .i64 k10, .int .i64 k11, .int .i64 k12]).toArray, undef, .pointer (some ⟨w.heap.size, 35, none⟩), .int .i64 d0, .pointer (some ⟨w.heap.size, 36, none⟩), .int .i64 d1, .pointer (some ⟨w.heap.size, 37, none⟩), .int .i64 d2, .slice (some ⟨F0, 0, none⟩) 3 3, undef, .pointer (some ⟨w.heap.size, 38, none⟩), .agg ([.int .i64 l0, .int .i64 l1, .int .i64 l2, .int .i64 l3, .int .i64 l4]).toArray, undef, .pointer (some ⟨w.heap.size, 43, none⟩), .bool y, undef, .pointer (some ⟨w.heap.size, 44, none⟩), .int .i64 e0, .pointer (some ⟨w.heap.size, 45, none⟩), .int .i64 e1, undef, undef, undef, undef], []⟩ W := by
    intro W sa0 sn0 sc0 F0 BL BW D0 G0
    refine hG.1 _ _ _ _ ?_
    refine wpAnyH_ready (rs := [5, 34]) (by kernel_rfl) (by simp) ?_
    refine AllReadyH.cons (o := { dst := some 8, op := Op.call { callee := Callee.value (Operand.func 55), args := #[Operand.tmp 7], argTypes := #[55] }, type := 33, pos := "encode.go:61", after := #[{ on := 4, ground := Ground.data }, { on := 2, ground := Ground.chain }], guard := none }) rfl (fun K hK => ?_) (AllReadyH.cons (o := { dst := some 37, op := Op.buildSlice 110 2 #[(0, Operand.tmp 34), (1, Operand.tmp 36)], type := 110, pos := "encode.go:59", after := #[{ on := 31, ground := Ground.data }, { on := 33, ground := Ground.data }], guard := none }) rfl (fun K hK => ?_) AllReadyH.nil)
    · go_simp
      refine (C1.out W).mono ?_
      rintro e W2 ⟨v, rfl, rv, bX⟩
      obtain ⟨sa1, sc1, ev, -, -⟩ := (RowV.rd rv).len
      generalize ((r1).map bv).length = sn1 at ev
      subst ev
      have BL' : Hid (Blk (w.heap.size) 65 ((lnC id t0 t1 t2 t3 t4 t5 pa pn pc b0 b1 b2 b3 b4 b5 b6 b7 b8 b9 b10 b11 s z k0 k1 k2 k3 k4 k5 k6 k7 k8 k9 k10 k11 k12 d0 d1 d2 l0 l1 l2 l3 l4 y e0 e1)) W2) := BL.out.below bX
      have BW' : Hid (Below w.heap.size w W2) := below_trans BW.out bX
      have D0' : Hid (RdB W2 (.slice sa0 sn0 sc0) (r0)) := D0.out.later bX
      have D1' : Hid (RdB W2 (.slice sa1 sn1 sc1) (r1)) := RowV.rd rv
      have G0' : Hid (Blk F0 2 [.int .i64 d0, .int .i64 d1, .int .i64 d2] W2) := G0.out.below bX
      refine hK.out _ _ BL'.out (fun _ => ?_)
      try simp only [List.setIfInBounds_toArray, List.set_cons_zero, List.set_cons_succ]
      exact hG.2 _ _ _ _ (Q2_0 W2 _ _ _ _ _ _ _ BL' BW' D0' D1' G0')
    · go_simp
      have bX := below_alloc W (.cells #[.int .i64 e0, .int .i64 e1] 2)
      have G1' : Hid (Blk W.heap.size 2 [.int .i64 e0, .int .i64 e1] (W.alloc (.cells #[.int .i64 e0, .int .i64 e1] 2))) := Blk.new _ _ _
      have BL' : Hid (Blk (w.heap.size) 65 ((lnC id t0 t1 t2 t3 t4 t5 pa pn pc b0 b1 b2 b3 b4 b5 b6 b7 b8 b9 b10 b11 s z k0 k1 k2 k3 k4 k5 k6 k7 k8 k9 k10 k11 k12 d0 d1 d2 l0 l1 l2 l3 l4 y e0 e1)) (W.alloc (.cells #[.int .i64 e0, .int .i64 e1] 2))) := BL.out.below bX
      have BW' : Hid (Below w.heap.size w (W.alloc (.cells #[.int .i64 e0, .int .i64 e1] 2))) := below_trans BW.out bX
      have D0' : Hid (RdB (W.alloc (.cells #[.int .i64 e0, .int .i64 e1] 2)) (.slice sa0 sn0 sc0) (r0)) := D0.out.later bX
      have G0' : Hid (Blk F0 2 [.int .i64 d0, .int .i64 d1, .int .i64 d2] (W.alloc (.cells #[.int .i64 e0, .int .i64 e1] 2))) := G0.out.below bX
      refine hK.out _ _ BL'.out (fun _ => ?_)
      try simp only [List.setIfInBounds_toArray, List.set_cons_zero, List.set_cons_succ]
      exact hG.2 _ _ _ _ (Q1_01 _ _ _ _ _ _ BL' BW' D0' G0' G1')
  have Q1_1 : ∀ (W : World) (sa0 : Option Addr) (sn0 sc0 : Nat) (F1 : Nat), Hid (Blk (w.heap.size) 65 ((lnC id t0 t1 t2 t3 t4 t5 pa pn pc b0 b1 b2 b3 b4 b5 b6 b7 b8 b9 b10 b11 s z k0 k1 k2 k3 k4 k5 k6 k7 k8 k9 k10 k11 k12 d0 d1 d2 l0 l1 l2 l3 l4 y e0 e1)) W) → Hid (Below w.heap.size w W) → Hid (RdB W (.slice sa0 sn0 sc0) (r0)) → Hid (Blk F1 2 [.int .i64 e0, .int .i64 e1] W) → G 12 #[true, true, true, true, true, false, true, true, false, true, true, true, false, true, true, false, true, true, true, true, true, true, false, false, true, true, false, true, true, false, true, true, true, true, true, false, false, false, false] ⟨#[.agg (lnC id t0 t1 t2 t3 t4 t5 pa pn pc b0 b1 b2 b3 b4 b5 b6 b7 b8 b9 b10 b11 s z k0 k1 k2 k3 k4 k5 k6 k7 k8 k9 k10 k11 k12 d0 d1 d2 l0 l1 l2 l3 l4 y e0 e1).toArray, .pointer (some ⟨w.heap.size, 0, none⟩), .slice none 0 0, .pointer (some ⟨w.heap.size, 0, none⟩), .int .i64 id, .slice sa0 sn0 sc0, .pointer (some ⟨w.heap.size, 1, none⟩), .agg ([.int .i64 t0, .int .i64 t1, .int .i64 t2, .int .i64 t3, .int .i64 t4, .int .i64 t5]).toArray, undef, .pointer (some ⟨w.heap.size, 7, none⟩), .slice pa pn pc, undef, .pointer (some ⟨w.heap.size, 8, none⟩), .pointer (some ⟨w.heap.size, 8, none⟩), .slice (some ⟨w.heap.size, 8, none⟩) 12 12, undef, .pointer (some ⟨w.heap.size, 20, none⟩), .agg ([.int .i64 s, .bool z, .int .i64 k0, .int .i64 k1, .int .i64 k2, .int .i64 k3, .int .i64 k4, .int .i64 k5, .int .i64 k6, .int .i64 k7, .int .i64 k8, .int .i64 k9, .int .i64 k10, .int .i64 k11, .int .i64 k12]).toArray, undef, .pointer (some ⟨w.heap.size, 35, none⟩), .int .i64 d0, .pointer (some ⟨w.heap.size, 36, none⟩), .int .i64 d1, .pointer (some ⟨w.heap.size, 37, none⟩), .int .i64 d2, undef, undef, .pointer (some ⟨w.heap.size, 38, none⟩), .agg ([.int .i64 l0, .int .i64 l1, .int .i64 l2, .int .i64 l3, .int .i64 l4]).toArray, undef, .pointer (some ⟨w.heap.size, 43, none⟩), .bool y, undef, .pointer (some ⟨w.heap.size, 44, none⟩), .int .i64 e0, .pointer (some ⟨w.heap.size, 45, none⟩), .int .i64 e1, .slice (some ⟨F1, 0, none⟩) 2 2, undef, undef, undef], []⟩ W := by
    intro W sa0 sn0 sc0 F1 BL BW D0 G1
    refine hG.1 _ _ _ _ ?_
    refine wpAnyH_ready (rs := [5, 22]) (by kernel_rfl) (by simp) ?_
    refine AllReadyH.cons (o := { dst := some 8, op := Op.call { callee := Callee.value (Operand.func 55), args := #[Operand.tmp 7], argTypes := #[55] }, type := 33, pos := "encode.go:61", after := #[{ on := 4, ground := Ground.data }, { on := 2, ground := Ground.chain }], guard := none }) rfl (fun K hK => ?_) (AllReadyH.cons (o := { dst := some 25, op := Op.buildSlice 110 3 #[(0, Operand.tmp 20), (1, Operand.tmp 22), (2, Operand.tmp 24)], type := 110, pos := "encode.go:59", after := #[{ on := 17, ground := Ground.data }, { on := 19, ground := Ground.data }, { on := 21, ground := Ground.data }], guard := none }) rfl (fun K hK => ?_) AllReadyH.nil)
    · go_simp
      refine (C1.out W).mono ?_
      rintro e W2 ⟨v, rfl, rv, bX⟩
      obtain ⟨sa1, sc1, ev, -, -⟩ := (RowV.rd rv).len
      generalize ((r1).map bv).length = sn1 at ev
      subst ev
      have BL' : Hid (Blk (w.heap.size) 65 ((lnC id t0 t1 t2 t3 t4 t5 pa pn pc b0 b1 b2 b3 b4 b5 b6 b7 b8 b9 b10 b11 s z k0 k1 k2 k3 k4 k5 k6 k7 k8 k9 k10 k11 k12 d0 d1 d2 l0 l1 l2 l3 l4 y e0 e1)) W2) := BL.out.below bX
      have BW' : Hid (Below w.heap.size w W2) := below_trans BW.out bX
      have D0' : Hid (RdB W2 (.slice sa0 sn0 sc0) (r0)) := D0.out.later bX
      have D1' : Hid (RdB W2 (.slice sa1 sn1 sc1) (r1)) := RowV.rd rv
      have G1' : Hid (Blk F1 2 [.int .i64 e0, .int .i64 e1] W2) := G1.out.below bX
      refine hK.out _ _ BL'.out (fun _ => ?_)
      try simp only [List.setIfInBounds_toArray, List.set_cons_zero, List.set_cons_succ]
      exact hG.2 _ _ _ _ (Q2_1 W2 _ _ _ _ _ _ _ BL' BW' D0' D1' G1')
    · go_simp
      have bX := below_alloc W (.cells #[.int .i64 d0, .int .i64 d1, .int .i64 d2] 2)
      have G0' : Hid (Blk W.heap.size 2 [.int .i64 d0, .int .i64 d1, .int .i64 d2] (W.alloc (.cells #[.int .i64 d0, .int .i64 d1, .int .i64 d2] 2))) := Blk.new _ _ _
      have BL' : Hid (Blk (w.heap.size) 65 ((lnC id t0 t1 t2 t3 t4 t5 pa pn pc b0 b1 b2 b3 b4 b5 b6 b7 b8 b9 b10 b11 s z k0 k1 k2 k3 k4 k5 k6 k7 k8 k9 k10 k11 k12 d0 d1 d2 l0 l1 l2 l3 l4 y e0 e1)) (W.alloc (.cells #[.int .i64 d0, .int .i64 d1, .int .i64 d2] 2))) := BL.out.below bX
      have BW' : Hid (Below w.heap.size w (W.alloc (.cells #[.int .i64 d0, .int .i64 d1, .int .i64 d2] 2))) := below_trans BW.out bX
      have D0' : Hid (RdB (W.alloc (.cells #[.int .i64 d0, .int .i64 d1, .int .i64 d2] 2)) (.slice sa0 sn0 sc0) (r0)) := D0.out.later bX
      have G1' : Hid (Blk F1 2 [.int .i64 e0, .int .i64 e1] (W.alloc (.cells #[.int .i64 d0, .int .i64 d1, .int .i64 d2] 2))) := G1.out.below bX
      refine hK.out _ _ BL'.out (fun _ => ?_)
      try simp only [List.setIfInBounds_toArray, List.set_cons_zero, List.set_cons_succ]
      exact hG.2 _ _ _ _ (Q1_01 _ _ _ _ _ _ BL' BW' D0' G0' G1')
  have Q1_ : ∀ (W : World) (sa0 : Option Addr) (sn0 sc0 : Nat), Hid (Blk (w.heap.size) 65 ((lnC id t0 t1 t2 t3 t4 t5 pa pn pc b0 b1 b2 b3 b4 b5 b6 b7 b8 b9 b10 b11 s z k0 k1 k2 k3 k4 k5 k6 k7 k8 k9 k10 k11 k12 d0 d1 d2 l0 l1 l2 l3 l4 y e0 e1)) W) → Hid (Below w.heap.size w W) → Hid (RdB W (.slice sa0 sn0 sc0) (r0)) → G 13 #[true, true, true, true, true, false, true, true, false, true, true, true, false, true, true, false, true, true, true, true, true, true, false, false, true, true, false, true, true, false, true, true, true, true, false, false, false, false, false] ⟨#[.agg (lnC id t0 t1 t2 t3 t4 t5 pa pn pc b0 b1 b2 b3 b4 b5 b6 b7 b8 b9 b10 b11 s z k0 k1 k2 k3 k4 k5 k6 k7 k8 k9 k10 k11 k12 d0 d1 d2 l0 l1 l2 l3 l4 y e0 e1).toArray, .pointer (some ⟨w.heap.size, 0, none⟩), .slice none 0 0, .pointer (some ⟨w.heap.size, 0, none⟩), .int .i64 id, .slice sa0 sn0 sc0, .pointer (some ⟨w.heap.size, 1, none⟩), .agg ([.int .i64 t0, .int .i64 t1, .int .i64 t2, .int .i64 t3, .int .i64 t4, .int .i64 t5]).toArray, undef, .pointer (some ⟨w.heap.size, 7, none⟩), .slice pa pn pc, undef, .pointer (some ⟨w.heap.size, 8, none⟩), .pointer (some ⟨w.heap.size, 8, none⟩), .slice (some ⟨w.heap.size, 8, none⟩) 12 12, undef, .pointer (some ⟨w.heap.size, 20, none⟩), .agg ([.int .i64 s, .bool z, .int .i64 k0, .int .i64 k1, .int .i64 k2, .int .i64 k3, .int .i64 k4, .int .i64 k5, .int .i64 k6, .int .i64 k7, .int .i64 k8, .int .i64 k9, .int .i64 k10, .int .i64 k11, .int .i64 k12]).toArray, undef, .pointer (some ⟨w.heap.size, 35, none⟩), .int .i64 d0, .pointer (some ⟨w.heap.size, 36, none⟩), .int .i64 d1, .pointer (some ⟨w.heap.size, 37, none⟩), .int .i64 d2, undef, undef, .pointer (some ⟨w.heap.size, 38, none⟩), .agg ([.int .i64 l0, .int .i64 l1, .int .i64 l2, .int .i64 l3, .int .i64 l4]).toArray, undef, .pointer (some ⟨w.heap.size, 43, none⟩), .bool y, undef, .pointer (some ⟨w.heap.size, 44, none⟩), .int .i64 e0, .pointer (some ⟨w.heap.size, 45, none⟩), .int .i64 e1, undef, undef, undef, undef], []⟩ W := by
    intro W sa0 sn0 sc0 BL BW D0
    refine hG.1 _ _ _ _ ?_
    refine wpAnyH_ready (rs := [5, 22, 34]) (by kernel_rfl) (by simp) ?_
    refine AllReadyH.cons (o := { dst := some 8, op := Op.call { callee := Callee.value (Operand.func 55), args := #[Operand.tmp 7], argTypes := #[55] }, type := 33, pos := "encode.go:61", after := #[{ on := 4, ground := Ground.data }, { on := 2, ground := Ground.chain }], guard := none }) rfl (fun K hK => ?_) (AllReadyH.cons (o := { dst := some 25, op := Op.buildSlice 110 3 #[(0, Operand.tmp 20), (1, Operand.tmp 22), (2, Operand.tmp 24)], type := 110, pos := "encode.go:59", after := #[{ on := 17, ground := Ground.data }, { on := 19, ground := Ground.data }, { on := 21, ground := Ground.data }], guard := none }) rfl (fun K hK => ?_) (AllReadyH.cons (o := { dst := some 37, op := Op.buildSlice 110 2 #[(0, Operand.tmp 34), (1, Operand.tmp 36)], type := 110, pos := "encode.go:59", after := #[{ on := 31, ground := Ground.data }, { on := 33, ground := Ground.data }], guard := none }) rfl (fun K hK => ?_) AllReadyH.nil))
    · go_simp
      refine (C1.out W).mono ?_
      rintro e W2 ⟨v, rfl, rv, bX⟩
      obtain ⟨sa1, sc1, ev, -, -⟩ := (RowV.rd rv).len
      generalize ((r1).map bv).length = sn1 at ev
      subst ev
      have BL' : Hid (Blk (w.heap.size) 65 ((lnC id t0 t1 t2 t3 t4 t5 pa pn pc b0 b1 b2 b3 b4 b5 b6 b7 b8 b9 b10 b11 s z k0 k1 k2 k3 k4 k5 k6 k7 k8 k9 k10 k11 k12 d0 d1 d2 l0 l1 l2 l3 l4 y e0 e1)) W2) := BL.out.below bX
      have BW' : Hid (Below w.heap.size w W2) := below_trans BW.out bX
      have D0' : Hid (RdB W2 (.slice sa0 sn0 sc0) (r0)) := D0.out.later bX
      have D1' : Hid (RdB W2 (.slice sa1 sn1 sc1) (r1)) := RowV.rd rv
      refine hK.out _ _ BL'.out (fun _ => ?_)
      try simp only [List.setIfInBounds_toArray, List.set_cons_zero, List.set_cons_succ]
      exact hG.2 _ _ _ _ (Q2_ W2 _ _ _ _ _ _ BL' BW' D0' D1')
    · go_simp
      have bX := below_alloc W (.cells #[.int .i64 d0, .int .i64 d1, .int .i64 d2] 2)
      have G0' : Hid (Blk W.heap.size 2 [.int .i64 d0, .int .i64 d1, .int .i64 d2] (W.alloc (.cells #[.int .i64 d0, .int .i64 d1, .int .i64 d2] 2))) := Blk.new _ _ _
      have BL' : Hid (Blk (w.heap.size) 65 ((lnC id t0 t1 t2 t3 t4 t5 pa pn pc b0 b1 b2 b3 b4 b5 b6 b7 b8 b9 b10 b11 s z k0 k1 k2 k3 k4 k5 k6 k7 k8 k9 k10 k11 k12 d0 d1 d2 l0 l1 l2 l3 l4 y e0 e1)) (W.alloc (.cells #[.int .i64 d0, .int .i64 d1, .int .i64 d2] 2))) := BL.out.below bX
      have BW' : Hid (Below w.heap.size w (W.alloc (.cells #[.int .i64 d0, .int .i64 d1, .int .i64 d2] 2))) := below_trans BW.out bX
      have D0' : Hid (RdB (W.alloc (.cells #[.int .i64 d0, .int .i64 d1, .int .i64 d2] 2)) (.slice sa0 sn0 sc0) (r0)) := D0.out.later bX
      refine hK.out _ _ BL'.out (fun _ => ?_)
      try simp only [List.setIfInBounds_toArray, List.set_cons_zero, List.set_cons_succ]
      exact hG.2 _ _ _ _ (Q1_0 _ _ _ _ _ BL' BW' D0' G0')
    · go_simp
      have bX := below_alloc W (.cells #[.int .i64 e0, .int .i64 e1] 2)
      have G1' : Hid (Blk W.heap.size 2 [.int .i64 e0, .int .i64 e1] (W.alloc (.cells #[.int .i64 e0, .int .i64 e1] 2))) := Blk.new _ _ _
      have BL' : Hid (Blk (w.heap.size) 65 ((lnC id t0 t1 t2 t3 t4 t5 pa pn pc b0 b1 b2 b3 b4 b5 b6 b7 b8 b9 b10 b11 s z k0 k1 k2 k3 k4 k5 k6 k7 k8 k9 k10 k11 k12 d0 d1 d2 l0 l1 l2 l3 l4 y e0 e1)) (W.alloc (.cells #[.int .i64 e0, .int .i64 e1] 2))) := BL.out.below bX
      have BW' : Hid (Below w.heap.size w (W.alloc (.cells #[.int .i64 e0, .int .i64 e1] 2))) := below_trans BW.out bX
      have D0' : Hid (RdB (W.alloc (.cells #[.int .i64 e0, .int .i64 e1] 2)) (.slice sa0 sn0 sc0) (r0)) := D0.out.later bX
      refine hK.out _ _ BL'.out (fun _ => ?_)
      try simp only [List.setIfInBounds_toArray, List.set_cons_zero, List.set_cons_succ]
      exact hG.2 _ _ _ _ (Q1_1 _ _ _ _ _ BL' BW' D0' G1')
  have Q0_01 : ∀ (W : World) (F0 : Nat) (F1 : Nat), Hid (Blk (w.heap.size) 65 ((lnC id t0 t1 t2 t3 t4 t5 pa pn pc b0 b1 b2 b3 b4 b5 b6 b7 b8 b9 b10 b11 s z k0 k1 k2 k3 k4 k5 k6 k7 k8 k9 k10 k11 k12 d0 d1 d2 l0 l1 l2 l3 l4 y e0 e1)) W) → Hid (Below w.heap.size w W) → Hid (Blk F0 2 [.int .i64 d0, .int .i64 d1, .int .i64 d2] W) → Hid (Blk F1 2 [.int .i64 e0, .int .i64 e1] W) → G 12 #[true, true, false, true, true, false, true, true, false, true, true, true, false, true, true, false, true, true, true, true, true, true, true, false, true, true, false, true, true, false, true, true, true, true, true, false, false, false, false] ⟨#[.agg (lnC id t0 t1 t2 t3 t4 t5 pa pn pc b0 b1 b2 b3 b4 b5 b6 b7 b8 b9 b10 b11 s z k0 k1 k2 k3 k4 k5 k6 k7 k8 k9 k10 k11 k12 d0 d1 d2 l0 l1 l2 l3 l4 y e0 e1).toArray, .pointer (some ⟨w.heap.size, 0, none⟩), .slice none 0 0, .pointer (some ⟨w.heap.size, 0, none⟩), .int .i64 id, undef, .pointer (some ⟨w.heap.size, 1, none⟩), .agg ([.int .i64 t0, .int .i64 t1, .int .i64 t2, .int .i64 t3, .int .i64 t4, .int .i64 t5]).toArray, undef, .pointer (some ⟨w.heap.size, 7, none⟩), .slice pa pn pc, undef, .pointer (some ⟨w.heap.size, 8, none⟩), .pointer (some ⟨w.heap.size, 8, none⟩), .slice (some ⟨w.heap.size, 8, none⟩) 12 12, undef, .pointer (some ⟨w.heap.size, 20, none⟩), .agg ([.int .i64 s, .bool z, .int .i64 k0, .int .i64 k1, .int .i64 k2, .int .i64 k3, .int .i64 k4, .int .i64 k5, .int .i64 k6, .int .i64 k7, .int .i64 k8, .int .i64 k9, .int .i64 k10, .int .i64 k11, .int .i64 k12]).toArray, undef, .pointer (some ⟨w.heap.size, 35, none⟩), .int .i64 d0, .pointer (some ⟨w.heap.size, 36, none⟩), .int .i64 d1, .pointer (some ⟨w.heap.size, 37, none⟩), .int .i64 d2, .slice (some ⟨F0, 0, none⟩) 3 3, undef, .pointer (some ⟨w.heap.size, 38, none⟩), .agg ([.int .i64 l0, .int .i64 l1, .int .i64 l2, .int .i64 l3, .int .i64 l4]).toArray, undef, .pointer (some ⟨w.heap.size, 43, none⟩), .bool y, undef, .pointer (some ⟨w.heap.size, 44, none⟩), .int .i64 e0, .pointer (some ⟨w.heap.size, 45, none⟩), .int .i64 e1, .slice (some ⟨F1, 0, none⟩) 2 2, undef, undef, undef], []⟩ W := by
    intro W F0 F1 BL BW G0 G1
    refine hG.1 _ _ _ _ ?_
    refine wpAnyH_ready (rs := [2]) (by kernel_rfl) (by simp) ?_
    refine AllReadyH.cons (o := { dst := some 5, op := Op.call { callee := Callee.value (Operand.func 37), args := #[Operand.tmp 4], argTypes := #[3] }, type := 33, pos := "encode.go:60", after := #[{ on := 1, ground := Ground.data }], guard := none }) rfl (fun K hK => ?_) AllReadyH.nil
    go_simp
    refine (C0.out W).mono ?_
    rintro e W2 ⟨v, rfl, rv, bX⟩
    obtain ⟨sa0, sc0, ev, -, -⟩ := (RowV.rd rv).len
    generalize ((r0).map bv).length = sn0 at ev
    subst ev
    have BL' : Hid (Blk (w.heap.size) 65 ((lnC id t0 t1 t2 t3 t4 t5 pa pn pc b0 b1 b2 b3 b4 b5 b6 b7 b8 b9 b10 b11 s z k0 k1 k2 k3 k4 k5 k6 k7 k8 k9 k10 k11 k12 d0 d1 d2 l0 l1 l2 l3 l4 y e0 e1)) W2) := BL.out.below bX
    have BW' : Hid (Below w.heap.size w W2) := below_trans BW.out bX
    have D0' : Hid (RdB W2 (.slice sa0 sn0 sc0) (r0)) := RowV.rd rv
    have G0' : Hid (Blk F0 2 [.int .i64 d0, .int .i64 d1, .int .i64 d2] W2) := G0.out.below bX
    have G1' : Hid (Blk F1 2 [.int .i64 e0, .int .i64 e1] W2) := G1.out.below bX
    refine hK.out _ _ BL'.out (fun _ => ?_)
    try simp only [List.setIfInBounds_toArray, List.set_cons_zero, List.set_cons_succ]
    exact hG.2 _ _ _ _ (Q1_01 W2 _ _ _ _ _ BL' BW' D0' G0' G1')
  have Q0_0 : ∀ (W : World) (F0 : Nat), Hid (Blk (w.heap.size) 65 ((lnC id t0 t1 t2 t3 t4 t5 pa pn pc b0 b1 b2 b3 b4 b5 b6 b7 b8 b9 b10 b11 s z k0 k1 k2 k3 k4 k5 k6 k7 k8 k9 k10 k11 k12 d0 d1 d2 l0 l1 l2 l3 l4 y e0 e1)) W) → Hid (Below w.heap.size w W) → Hid (Blk F0 2 [.int .i64 d0, .int .i64 d1, .int .i64 d2] W) → G 13 #[true, true, false, true, true, false, true, true, false, true, true, true, false, true, true, false, true, true, true, true, true, true, true, false, true, true, false, true, true, false, true, true, true, true, false, false, false, false, false] ⟨#[.agg (lnC id t0 t1 t2 t3 t4 t5 pa pn pc b0 b1 b2 b3 b4 b5 b6 b7 b8 b9 b10 b11 s z k0 k1 k2 k3 k4 k5 k6 k7 k8 k9 k10 k11 k12 d0 d1 d2 l0 l1 l2 l3 l4 y e0 e1).toArray, .pointer (some ⟨w.heap.size, 0, none⟩), .slice none 0 0, .pointer (some ⟨w.heap.size, 0, none⟩), .int .i64 id, undef, .pointer (some ⟨w.heap.size, 1, none⟩), .agg ([.int .i64 t0, .int .i64 t1, .int .i64 t2, .int .i64 t3, .int .i64 t4, .int .i64 t5]).toArray, undef, .pointer (some ⟨w.heap.size, 7, none⟩), .slice pa pn pc, undef, .pointer (some ⟨w.heap.size, 8, none⟩), .pointer (some ⟨w.heap.size, 8, none⟩), .slice (some ⟨w.heap.size, 8, none⟩) 12 12, undef, .pointer (some ⟨w.heap.size, 20, none⟩), .agg ([.int .i64 s, .bool z, .int .i64 k0, .int .i64 k1, .int .i64 k2, .int .i64 k3, .int .i64 k4, .int .i64 k5, .int .i64 k6, .int .i64 k7, .int .i64 k8, .int .i64 k9, .int .i64 k10, .int .i64 k11, .int .i64 k12]).toArray, undef, .pointer (some ⟨w.heap.size, 35, none⟩), .int .i64 d0, .pointer (some ⟨w.heap.size, 36, none⟩), .int .i64 d1, .pointer (some ⟨w.heap.size, 37, none⟩), .int .i64 d2, .slice (some ⟨F0, 0, none⟩) 3 3, undef, .pointer (some ⟨w.heap.size, 38, none⟩), .agg ([.int .i64 l0, .int .i64 l1, .int .i64 l2, .int .i64 l3, .int .i64 l4]).toArray, undef, .pointer (some ⟨w.heap.size, 43, none⟩), .bool y, undef, .pointer (some ⟨w.heap.size, 44, none⟩), .int .i64 e0, .pointer (some ⟨w.heap.size, 45, none⟩), .int .i64 e1, undef, undef, undef, undef], []⟩ W := by
    intro W F0 BL BW G0
    refine hG.1 _ _ _ _ ?_
    refine wpAnyH_ready (rs := [2, 34]) (by kernel_rfl) (by simp) ?_
    refine AllReadyH.cons (o := { dst := some 5, op := Op.call { callee := Callee.value (Operand.func 37), args := #[Operand.tmp 4], argTypes := #[3] }, type := 33, pos := "encode.go:60", after := #[{ on := 1, ground := Ground.data }], guard := none }) rfl (fun K hK => ?_) (AllReadyH.cons (o := { dst := some 37, op := Op.buildSlice 110 2 #[(0, Operand.tmp 34), (1, Operand.tmp 36)], type := 110, pos := "encode.go:59", after := #[{ on := 31, ground := Ground.data }, { on := 33, ground := Ground.data }], guard := none }) rfl (fun K hK => ?_) AllReadyH.nil)
    · go_simp
      refine (C0.out W).mono ?_
      rintro e W2 ⟨v, rfl, rv, bX⟩
      obtain ⟨sa0, sc0, ev, -, -⟩ := (RowV.rd rv).len
      generalize ((r0).map bv).length = sn0 at ev
      subst ev
      have BL' : Hid (Blk (w.heap.size) 65 ((lnC id t0 t1 t2 t3 t4 t5 pa pn pc b0 b1 b2 b3 b4 b5 b6 b7 b8 b9 b10 b11 s z k0 k1 k2 k3 k4 k5 k6 k7 k8 k9 k10 k11 k12 d0 d1 d2 l0 l1 l2 l3 l4 y e0 e1)) W2) := BL.out.below bX
      have BW' : Hid (Below w.heap.size w W2) := below_trans BW.out bX
      have D0' : Hid (RdB W2 (.slice sa0 sn0 sc0) (r0)) := RowV.rd rv
      have G0' : Hid (Blk F0 2 [.int .i64 d0, .int .i64 d1, .int .i64 d2] W2) := G0.out.below bX
      refine hK.out _ _ BL'.out (fun _ => ?_)
      try simp only [List.setIfInBounds_toArray, List.set_cons_zero, List.set_cons_succ]
      exact hG.2 _ _ _ _ (Q1_0 W2 _ _ _ _ BL' BW' D0' G0')
    · go_simp
      have bX := below_alloc W (.cells #[.int .i64 e0, .int .i64 e1] 2)
      have G1' : Hid (Blk W.heap.size 2 [.int .i64 e0, .int .i64 e1] (W.alloc (.cells #[.int .i64 e0, .int .i64 e1] 2))) := Blk.new _ _ _
      have BL' : Hid (Blk (w.heap.size) 65 ((lnC id t0 t1 t2 t3 t4 t5 pa pn pc b0 b1 b2 b3 b4 b5 b6 b7 b8 b9 b10 b11 s z k0 k1 k2 k3 k4 k5 k6 k7 k8 k9 k10 k11 k12 d0 d1 d2 l0 l1 l2 l3 l4 y e0 e1)) (W.alloc (.cells #[.int .i64 e0, .int .i64 e1] 2))) := BL.out.below bX
      have BW' : Hid (Below w.heap.size w (W.alloc (.cells #[.int .i64 e0, .int .i64 e1] 2))) := below_trans BW.out bX
      have G0' : Hid (Blk F0 2 [.int .i64 d0, .int .i64 d1, .int .i64 d2] (W.alloc (.cells #[.int .i64 e0, .int .i64 e1] 2))) := G0.out.below bX
      refine hK.out _ _ BL'.out (fun _ => ?_)
      try simp only [List.setIfInBounds_toArray, List.set_cons_zero, List.set_cons_succ]
      exact hG.2 _ _ _ _ (Q0_01 _ _ _ BL' BW' G0' G1')
  have Q0_1 : ∀ (W : World) (F1 : Nat), Hid (Blk (w.heap.size) 65 ((lnC id t0 t1 t2 t3 t4 t5 pa pn pc b0 b1 b2 b3 b4 b5 b6 b7 b8 b9 b10 b11 s z k0 k1 k2 k3 k4 k5 k6 k7 k8 k9 k10 k11 k12 d0 d1 d2 l0 l1 l2 l3 l4 y e0 e1)) W) → Hid (Below w.heap.size w W) → Hid (Blk F1 2 [.int .i64 e0, .int .i64 e1] W) → G 13 #[true, true, false, true, true, false, true, true, false, true, true, true, false, true, true, false, true, true, true, true, true, true, false, false, true, true, false, true, true, false, true, true, true, true, true, false, false, false, false] ⟨#[.agg (lnC id t0 t1 t2 t3 t4 t5 pa pn pc b0 b1 b2 b3 b4 b5 b6 b7 b8 b9 b10 b11 s z k0 k1 k2 k3 k4 k5 k6 k7 k8 k9 k10 k11 k12 d0 d1 d2 l0 l1 l2 l3 l4 y e0 e1).toArray, .pointer (some ⟨w.heap.size, 0, none⟩), .slice none 0 0, .pointer (some ⟨w.heap.size, 0, none⟩), .int .i64 id, undef, .pointer (some ⟨w.heap.size, 1, none⟩), .agg ([.int .i64 t0, .int .i64 t1, .int .i64 t2, .int .i64 t3, .int .i64 t4, .int .i64 t5]).toArray, undef, .pointer (some ⟨w.heap.size, 7, none⟩), .slice pa pn pc, undef, .pointer (some ⟨w.heap.size, 8, none⟩), .pointer (some ⟨w.heap.size, 8, none⟩), .slice (some ⟨w.heap.size, 8, none⟩) 12 12, undef, .pointer (some ⟨w.heap.size, 20, none⟩), .agg ([.int .i64 s, .bool z, .int .i64 k0, .int .i64 k1, .int .i64 k2, .int .i64 k3, .int .i64 k4, .int .i64 k5, .int .i64 k6, .int .i64 k7, .int .i64 k8, .int .i64 k9, .int .i64 k10, .int .i64 k11, .int .i64 k12]).toArray, undef, .pointer (some ⟨w.heap.size, 35, none⟩), .int .i64 d0, .pointer (some ⟨w.heap.size, 36, none⟩), .int .i64 d1, .pointer (some ⟨w.heap.size, 37, none⟩), .int .i64 d2, undef, undef, .pointer (some ⟨w.heap.size, 38, none⟩), .agg ([.int .i64 l0, .int .i64 l1, .int .i64 l2, .int .i64 l3, .int .i64 l4]).toArray, undef, .pointer (some ⟨w.heap.size, 43, none⟩), .bool y, undef, .pointer (some ⟨w.heap.size, 44, none⟩), .int .i64 e0, .pointer (some ⟨w.heap.size, 45, none⟩), .int .i64 e1, .slice (some ⟨F1, 0, none⟩) 2 2, undef, undef, undef], []⟩ W := by
    intro W F1 BL BW G1
    refine hG.1 _ _ _ _ ?_
    refine wpAnyH_ready (rs := [2, 22]) (by kernel_rfl) (by simp) ?_
    refine AllReadyH.cons (o := { dst := some 5, op := Op.call { callee := Callee.value (Operand.func 37), args := #[Operand.tmp 4], argTypes := #[3] }, type := 33, pos := "encode.go:60", after := #[{ on := 1, ground := Ground.data }], guard := none }) rfl (fun K hK => ?_) (AllReadyH.cons (o := { dst := some 25, op := Op.buildSlice 110 3 #[(0, Operand.tmp 20), (1, Operand.tmp 22), (2, Operand.tmp 24)], type := 110, pos := "encode.go:59", after := #[{ on := 17, ground := Ground.data }, { on := 19, ground := Ground.data }, { on := 21, ground := Ground.data }], guard := none }) rfl (fun K hK => ?_) AllReadyH.nil)
    · go_simp
      refine (C0.out W).mono ?_
      rintro e W2 ⟨v, rfl, rv, bX⟩
      obtain ⟨sa0, sc0, ev, -, -⟩ := (RowV.rd rv).len
      generalize ((r0).map bv).length = sn0 at ev
      subst ev
      have BL' : Hid (Blk (w.heap.size) 65 ((lnC id t0 t1 t2 t3 t4 t5 pa pn pc b0 b1 b2 b3 b4 b5 b6 b7 b8 b9 b10 b11 s z k0 k1 k2 k3 k4 k5 k6 k7 k8 k9 k10 k11 k12 d0 d1 d2 l0 l1 l2 l3 l4 y e0 e1)) W2) := BL.out.below bX
      have BW' : Hid (Below w.heap.size w W2) := below_trans BW.out bX
      have D0' : Hid (RdB W2 (.slice sa0 sn0 sc0) (r0)) := RowV.rd rv
      have G1' : Hid (Blk F1 2 [.int .i64 e0, .int .i64 e1] W2) := G1.out.below bX
      refine hK.out _ _ BL'.out (fun _ => ?_)
      try simp only [List.setIfInBounds_toArray, List.set_cons_zero, List.set_cons_succ]
      exact hG.2 _ _ _ _ (Q1_1 W2 _ _ _ _ BL' BW' D0' G1')
    · go_simp
      have bX := below_alloc W (.cells #[.int .i64 d0, .int .i64 d1, .int .i64 d2] 2)
      have G0' : Hid (Blk W.heap.size 2 [.int .i64 d0, .int .i64 d1, .int .i64 d2] (W.alloc (.cells #[.int .i64 d0, .int .i64 d1, .int .i64 d2] 2))) := Blk.new _ _ _
      have BL' : Hid (Blk (w.heap.size) 65 ((lnC id t0 t1 t2 t3 t4 t5 pa pn pc b0 b1 b2 b3 b4 b5 b6 b7 b8 b9 b10 b11 s z k0 k1 k2 k3 k4 k5 k6 k7 k8 k9 k10 k11 k12 d0 d1 d2 l0 l1 l2 l3 l4 y e0 e1)) (W.alloc (.cells #[.int .i64 d0, .int .i64 d1, .int .i64 d2] 2))) := BL.out.below bX
      have BW' : Hid (Below w.heap.size w (W.alloc (.cells #[.int .i64 d0, .int .i64 d1, .int .i64 d2] 2))) := below_trans BW.out bX
      have G1' : Hid (Blk F1 2 [.int .i64 e0, .int .i64 e1] (W.alloc (.cells #[.int .i64 d0, .int .i64 d1, .int .i64 d2] 2))) := G1.out.below bX
      refine hK.out _ _ BL'.out (fun _ => ?_)
      try simp only [List.setIfInBounds_toArray, List.set_cons_zero, List.set_cons_succ]
      exact hG.2 _ _ _ _ (Q0_01 _ _ _ BL' BW' G0' G1')
  have Q0_ : ∀ (W : World), Hid (Blk (w.heap.size) 65 ((lnC id t0 t1 t2 t3 t4 t5 pa pn pc b0 b1 b2 b3 b4 b5 b6 b7 b8 b9 b10 b11 s z k0 k1 k2 k3 k4 k5 k6 k7 k8 k9 k10 k11 k12 d0 d1 d2 l0 l1 l2 l3 l4 y e0 e1)) W) → Hid (Below w.heap.size w W) → G 14 #[true, true, false, true, true, false, true, true, false, true, true, true, false, true, true, false, true, true, true, true, true, true, false, false, true, true, false, true, true, false, true, true, true, true, false, false, false, false, false] ⟨#[.agg (lnC id t0 t1 t2 t3 t4 t5 pa pn pc b0 b1 b2 b3 b4 b5 b6 b7 b8 b9 b10 b11 s z k0 k1 k2 k3 k4 k5 k6 k7 k8 k9 k10 k11 k12 d0 d1 d2 l0 l1 l2 l3 l4 y e0 e1).toArray, .pointer (some ⟨w.heap.size, 0, none⟩), .slice none 0 0, .pointer (some ⟨w.heap.size, 0, none⟩), .int .i64 id, undef, .pointer (some ⟨w.heap.size, 1, none⟩), .agg ([.int .i64 t0, .int .i64 t1, .int .i64 t2, .int .i64 t3, .int .i64 t4, .int .i64 t5]).toArray, undef, .pointer (some ⟨w.heap.size, 7, none⟩), .slice pa pn pc, undef, .pointer (some ⟨w.heap.size, 8, none⟩), .pointer (some ⟨w.heap.size, 8, none⟩), .slice (some ⟨w.heap.size, 8, none⟩) 12 12, undef, .pointer (some ⟨w.heap.size, 20, none⟩), .agg ([.int .i64 s, .bool z, .int .i64 k0, .int .i64 k1, .int .i64 k2, .int .i64 k3, .int .i64 k4, .int .i64 k5, .int .i64 k6, .int .i64 k7, .int .i64 k8, .int .i64 k9, .int .i64 k10, .int .i64 k11, .int .i64 k12]).toArray, undef, .pointer (some ⟨w.heap.size, 35, none⟩), .int .i64 d0, .pointer (some ⟨w.heap.size, 36, none⟩), .int .i64 d1, .pointer (some ⟨w.heap.size, 37, none⟩), .int .i64 d2, undef, undef, .pointer (some ⟨w.heap.size, 38, none⟩), .agg ([.int .i64 l0, .int .i64 l1, .int .i64 l2, .int .i64 l3, .int .i64 l4]).toArray, undef, .pointer (some ⟨w.heap.size, 43, none⟩), .bool y, undef, .pointer (some ⟨w.heap.size, 44, none⟩), .int .i64 e0, .pointer (some ⟨w.heap.size, 45, none⟩), .int .i64 e1, undef, undef, undef, undef], []⟩ W := by
    intro W BL BW
    refine hG.1 _ _ _ _ ?_
    refine wpAnyH_ready (rs := [2, 22, 34]) (by kernel_rfl) (by simp) ?_
    refine AllReadyH.cons (o := { dst := some 5, op := Op.call { callee := Callee.value (Operand.func 37), args := #[Operand.tmp 4], argTypes := #[3] }, type := 33, pos := "encode.go:60", after := #[{ on := 1, ground := Ground.data }], guard := none }) rfl (fun K hK => ?_) (AllReadyH.cons (o := { dst := some 25, op := Op.buildSlice 110 3 #[(0, Operand.tmp 20), (1, Operand.tmp 22), (2, Operand.tmp 24)], type := 110, pos := "encode.go:59", after := #[{ on := 17, ground := Ground.data }, { on := 19, ground := Ground.data }, { on := 21, ground := Ground.data }], guard := none }) rfl (fun K hK => ?_) (AllReadyH.cons (o := { dst := some 37, op := Op.buildSlice 110 2 #[(0, Operand.tmp 34), (1, Operand.tmp 36)], type := 110, pos := "encode.go:59", after := #[{ on := 31, ground := Ground.data }, { on := 33, ground := Ground.data }], guard := none }) rfl (fun K hK => ?_) AllReadyH.nil))
    · go_simp
      refine (C0.out W).mono ?_
      rintro e W2 ⟨v, rfl, rv, bX⟩
      obtain ⟨sa0, sc0, ev, -, -⟩ := (RowV.rd rv).len
      generalize ((r0).map bv).length = sn0 at ev
      subst ev
      have BL' : Hid (Blk (w.heap.size) 65 ((lnC id t0 t1 t2 t3 t4 t5 pa pn pc b0 b1 b2 b3 b4 b5 b6 b7 b8 b9 b10 b11 s z k0 k1 k2 k3 k4 k5 k6 k7 k8 k9 k10 k11 k12 d0 d1 d2 l0 l1 l2 l3 l4 y e0 e1)) W2) := BL.out.below bX
      have BW' : Hid (Below w.heap.size w W2) := below_trans BW.out bX
      have D0' : Hid (RdB W2 (.slice sa0 sn0 sc0) (r0)) := RowV.rd rv
      refine hK.out _ _ BL'.out (fun _ => ?_)
      try simp only [List.setIfInBounds_toArray, List.set_cons_zero, List.set_cons_succ]
      exact hG.2 _ _ _ _ (Q1_ W2 _ _ _ BL' BW' D0')
    · go_simp
      have bX := below_alloc W (.cells #[.int .i64 d0, .int .i64 d1, .int .i64 d2] 2)
      have G0' : Hid (Blk W.heap.size 2 [.int .i64 d0, .int .i64 d1, .int .i64 d2] (W.alloc (.cells #[.int .i64 d0, .int .i64 d1, .int .i64 d2] 2))) := Blk.new _ _ _
      have BL' : Hid (Blk (w.heap.size) 65 ((lnC id t0 t1 t2 t3 t4 t5 pa pn pc b0 b1 b2 b3 b4 b5 b6 b7 b8 b9 b10 b11 s z k0 k1 k2 k3 k4 k5 k6 k7 k8 k9 k10 k11 k12 d0 d1 d2 l0 l1 l2 l3 l4 y e0 e1)) (W.alloc (.cells #[.int .i64 d0, .int .i64 d1, .int .i64 d2] 2))) := BL.out.below bX
      have BW' : Hid (Below w.heap.size w (W.alloc (.cells #[.int .i64 d0, .int .i64 d1, .int .i64 d2] 2))) := below_trans BW.out bX
      refine hK.out _ _ BL'.out (fun _ => ?_)
      try simp only [List.setIfInBounds_toArray, List.set_cons_zero, List.set_cons_succ]
      exact hG.2 _ _ _ _ (Q0_0 _ _ BL' BW' G0')
    · go_simp
      have bX := below_alloc W (.cells #[.int .i64 e0, .int .i64 e1] 2)
      have G1' : Hid (Blk W.heap.size 2 [.int .i64 e0, .int .i64 e1] (W.alloc (.cells #[.int .i64 e0, .int .i64 e1] 2))) := Blk.new _ _ _
      have BL' : Hid (Blk (w.heap.size) 65 ((lnC id t0 t1 t2 t3 t4 t5 pa pn pc b0 b1 b2 b3 b4 b5 b6 b7 b8 b9 b10 b11 s z k0 k1 k2 k3 k4 k5 k6 k7 k8 k9 k10 k11 k12 d0 d1 d2 l0 l1 l2 l3 l4 y e0 e1)) (W.alloc (.cells #[.int .i64 e0, .int .i64 e1] 2))) := BL.out.below bX
      have BW' : Hid (Below w.heap.size w (W.alloc (.cells #[.int .i64 e0, .int .i64 e1] 2))) := below_trans BW.out bX
      refine hK.out _ _ BL'.out (fun _ => ?_)
      try simp only [List.setIfInBounds_toArray, List.set_cons_zero, List.set_cons_succ]
      exact hG.2 _ _ _ _ (Q0_1 _ _ BL' BW' G1')
  exact Q0_ _ (BL0.out.drewN 1) (below_drewN BW0.out 1)
set_option maxRecDepth 40000 in
set_option maxHeartbeats 4000000 in
theorem encStateL_at (td : Int) (la : Option Addr) (ln lc : Nat) (na : Option Addr) (nn nc : Nat) (LB NB : List Nat) (w : World) (htd : I64s [td]) (hL : ∀ W, Below w.heap.size w W → Calls Try.prog 40 #[.slice la ln lc, .func (.func 23) #[] #[]] W (NewB W LB)) (hN : ∀ W, Below w.heap.size w W → Calls Try.prog 41 #[.slice na nn nc, .func (.func 42) #[] #[]] W (NewB W NB)) (hLB : LB.length ≤ 450000000000) (hNB : NB.length ≤ 450000000000) : Calls Try.prog 13 #[.agg #[.int .i64 td, .slice la ln lc, .slice na nn nc]] w (NewB w (List.flatten [putI td, LB, NB])) := by
  have C0 : Hid (∀ W, Calls Try.prog 37 #[.int .i64 td] W (NewB W (putI td))) := fun W => putNumber_at td (htd td (by simp)) W
  have C1 : Hid (∀ W, Below w.heap.size w W → Calls Try.prog 40 #[.slice la ln lc, .func (.func 23) #[] #[]] W (NewB W LB)) := hL
  have C2 : Hid (∀ W, Below w.heap.size w W → Calls Try.prog 41 #[.slice na nn nc, .func (.func 42) #[] #[]] W (NewB W NB)) := hN
  have L0 := putI_len td (htd td (by simp))
  have L1 := hLB
  have L2 := hNB
  clear htd hL hN hLB hNB
  obtain ⟨r0, hr0⟩ : ∃ r, r = putI td := ⟨_, rfl⟩
  obtain ⟨r1, hr1⟩ : ∃ r, r = LB := ⟨_, rfl⟩
  obtain ⟨r2, hr2⟩ : ∃ r, r = NB := ⟨_, rfl⟩
  rw [← hr0, ← hr1, ← hr2]
  rw [← hr0] at C0 L0
  rw [← hr1] at C1 L1
  rw [← hr2] at C2 L2
  have CN : Hid (∀ (W : World) (sa0 : Option Addr) (sn0 sc0 : Nat) (sa1 : Option Addr) (sn1 sc1 : Nat) (sa2 : Option Addr) (sn2 sc2 : Nat), RdB W (.slice sa0 sn0 sc0) r0 → RdB W (.slice sa1 sn1 sc1) r1 → RdB W (.slice sa2 sn2 sc2) r2 → Calls Try.prog 34 #[.slice (some ⟨W.heap.size, 0, none⟩) 3 3] (W.alloc (.cells #[.slice sa0 sn0 sc0, .slice sa1 sn1 sc1, .slice sa2 sn2 sc2] 33)) (NewB W (List.flatten [r0, r1, r2]))) := by
    intro W sa0 sn0 sc0 sa1 sn1 sc1 sa2 sn2 sc2 h0 h1 h2
    refine concatN_at [.slice sa0 sn0 sc0, .slice sa1 sn1 sc1, .slice sa2 sn2 sc2] [r0, r1, r2] W 3 rfl rfl (by simp) (fun i hi => ?_) (by simp only [lenS, List.flatten_cons, List.flatten_nil, List.length_append, List.length_nil]; omega)
    match i, hi with
    | 0, _ => exact h0
    | 1, _ => exact h1
    | 2, _ => exact h2
  clear hr0 hr1 hr2 L0 L1 L2
  obtain ⟨RR, hRR⟩ : ∃ r, r = List.flatten [r0, r1, r2] := ⟨_, rfl⟩
  rw [← hRR] at CN ⊢
  clear hRR
  have BL0 : Hid (Blk w.heap.size 32 [.int .i64 td, .slice la ln lc, .slice na nn nc] (w.alloc (.cells #[.int .i64 td, .slice la ln lc, .slice na nn nc] 32))) := Blk.new _ _ _
  have BW0 : Hid (Below w.heap.size w (w.alloc (.cells #[.int .i64 td, .slice la ln lc, .slice na nn nc] 32))) := below_alloc _ _
  go_enter Try.func13, Try.ntmps13
  go_upto_region 1 with fail
  refine wp_region_held_drew (S := fun w' => Blk (w.heap.size) 32 ([.int .i64 td, .slice la ln lc, .slice na nn nc]) w') (by kernel_rfl) (BL0.out.drewN 1) (fun hH => ?_)
  refine wpAnyH_take (i := 0) (oi := { dst := some 3, op := Op.fieldAddr 32 (Operand.tmp 1) 0, type := 0, pos := "encode.go:74", after := #[], guard := none }) (v := .pointer (some ⟨w.heap.size, 0, none⟩)) rfl (by kernel_rfl) (by kernel_rfl) (by kernel_rfl) (fun _ _ _ h => h) (Or.inl ⟨by rfl, fun w' h => by go_simp⟩) hH ?_
  try simp only [Act.put, List.setIfInBounds_toArray, List.set_cons_zero, List.set_cons_succ]
  refine wpAnyH_take (i := 1) (oi := { dst := some 4, op := Op.load 3 (Operand.tmp 3), type := 3, pos := "encode.go:74", after := #[{ on := 0, ground := Ground.data }], guard := none }) (v := .int .i64 td) rfl (by kernel_rfl) (by kernel_rfl) (by kernel_rfl) (fun _ _ _ h => h) (Or.inl ⟨by rfl, fun w' h => by have q : w'.cell? ⟨w.heap.size, 0, none⟩ = some (.int .i64 td) := Blk.cell h 0 _ rfl; go_simp⟩) hH ?_
  try simp only [Act.put, List.setIfInBounds_toArray, List.set_cons_zero, List.set_cons_succ]
  refine wpAnyH_take (i := 3) (oi := { dst := some 6, op := Op.fieldAddr 32 (Operand.tmp 1) 1, type := 0, pos := "encode.go:74", after := #[], guard := none }) (v := .pointer (some ⟨w.heap.size, 1, none⟩)) rfl (by kernel_rfl) (by kernel_rfl) (by kernel_rfl) (fun _ _ _ h => h) (Or.inl ⟨by rfl, fun w' h => by go_simp⟩) hH ?_
  try simp only [Act.put, List.setIfInBounds_toArray, List.set_cons_zero, List.set_cons_succ]
  refine wpAnyH_take (i := 4) (oi := { dst := some 7, op := Op.load 29 (Operand.tmp 6), type := 29, pos := "encode.go:74", after := #[{ on := 3, ground := Ground.data }], guard := none }) (v := .slice la ln lc) rfl (by kernel_rfl) (by kernel_rfl) (by kernel_rfl) (fun _ _ _ h => h) (Or.inl ⟨by rfl, fun w' h => by have q : w'.cell? ⟨w.heap.size, 1, none⟩ = some (.slice la ln lc) := Blk.cell h 1 _ rfl; go_simp⟩) hH ?_
  try simp only [Act.put, List.setIfInBounds_toArray, List.set_cons_zero, List.set_cons_succ]
  refine wpAnyH_take (i := 6) (oi := { dst := some 9, op := Op.fieldAddr 32 (Operand.tmp 1) 2, type := 0, pos := "encode.go:74", after := #[], guard := none }) (v := .pointer (some ⟨w.heap.size, 2, none⟩)) rfl (by kernel_rfl) (by kernel_rfl) (by kernel_rfl) (fun _ _ _ h => h) (Or.inl ⟨by rfl, fun w' h => by go_simp⟩) hH ?_
  try simp only [Act.put, List.setIfInBounds_toArray, List.set_cons_zero, List.set_cons_succ]
  refine wpAnyH_take (i := 7) (oi := { dst := some 10, op := Op.load 30 (Operand.tmp 9), type := 30, pos := "encode.go:74", after := #[{ on := 6, ground := Ground.data }], guard := none }) (v := .slice na nn nc) rfl (by kernel_rfl) (by kernel_rfl) (by kernel_rfl) (fun _ _ _ h => h) (Or.inl ⟨by rfl, fun w' h => by have q : w'.cell? ⟨w.heap.size, 2, none⟩ = some (.slice na nn nc) := Blk.cell h 2 _ rfl; go_simp⟩) hH ?_
  try simp only [Act.put, List.setIfInBounds_toArray, List.set_cons_zero, List.set_cons_succ]
  clear hH
  refine anyH_name fun G hG => ?_
  have Q3_ : ∀ (W : World) (sa0 : Option Addr) (sn0 sc0 : Nat) (sa1 : Option Addr) (sn1 sc1 : Nat) (sa2 : Option Addr) (sn2 sc2 : Nat), Hid (Blk (w.heap.size) 32 ([.int .i64 td, .slice la ln lc, .slice na nn nc]) W) → Hid (Below w.heap.size w W) → Hid (RdB W (.slice sa0 sn0 sc0) (r0)) → Hid (RdB W (.slice sa1 sn1 sc1) (r1)) → Hid (RdB W (.slice sa2 sn2 sc2) (r2)) → G 3 #[true, true, true, true, true, true, true, true, true, false, false, false] ⟨#[.agg #[.int .i64 td, .slice la ln lc, .slice na nn nc], .pointer (some ⟨w.heap.size, 0, none⟩), .slice none 0 0, .pointer (some ⟨w.heap.size, 0, none⟩), .int .i64 td, .slice sa0 sn0 sc0, .pointer (some ⟨w.heap.size, 1, none⟩), .slice la ln lc, .slice sa1 sn1 sc1, .pointer (some ⟨w.heap.size, 2, none⟩), .slice na nn nc, .slice sa2 sn2 sc2, undef, undef], []⟩ W := by
    intro W sa0 sn0 sc0 sa1 sn1 sc1 sa2 sn2 sc2 BL BW D0 D1 D2
    refine hG.1 _ _ _ _ ?_
    refine wpAnyH_ready (rs := [9]) (by kernel_rfl) (by simp) ?_
    refine AllReadyH.cons (o := { dst := some 12, op := Op.buildSlice 126 3 #[(0, Operand.tmp 5), (1, Operand.tmp 8), (2, Operand.tmp 11)], type := 126, pos := "encode.go:74", after := #[{ on := 2, ground := Ground.data }, { on := 5, ground := Ground.data }, { on := 8, ground := Ground.data }], guard := none }) rfl (fun K hK => ?_) AllReadyH.nil
    go_simp
    refine hK.out _ _ (BL.out.below (below_alloc _ _)) (fun _ => ?_)
    try simp only [List.setIfInBounds_toArray, List.set_cons_zero, List.set_cons_succ]
    refine wpAnyH_ready (rs := [10]) (by kernel_rfl) (by simp) ?_
    refine AllReadyH.cons (o := { dst := some 13, op := Op.call { callee := Callee.value (Operand.func 34), args := #[Operand.tmp 12], argTypes := #[126] }, type := 33, pos := "encode.go:74", after := #[{ on := 9, ground := Ground.data }, { on := 8, ground := Ground.chain }], guard := none }) rfl (fun K hK => ?_) AllReadyH.nil
    go_simp
    refine (CN.out W sa0 sn0 sc0 sa1 sn1 sc1 sa2 sn2 sc2 D0.out D1.out D2.out).mono ?_
    rintro e W2 ⟨v, rfl, rv, bX⟩
    have R9 : Hid (RowB 5 w.heap.size W2 v RR) := RowV.mono rv BW.out.size
    have B9 : Hid (Below w.heap.size w W2) := below_trans BW.out bX
    refine hK.out _ _ (BL.out.below bX) (fun hH => ?_)
    try simp only [List.setIfInBounds_toArray, List.set_cons_zero, List.set_cons_succ]
    refine wpAnyH_take (i := 11) (oi := { dst := some 2, op := Op.assign (Operand.tmp 13), type := 33, pos := "encode.go:74", after := #[{ on := 10, ground := Ground.data }, { on := 10, ground := Ground.chain }, { on := 0, ground := Ground.phase }, { on := 1, ground := Ground.phase }, { on := 2, ground := Ground.phase }, { on := 3, ground := Ground.phase }, { on := 4, ground := Ground.phase }, { on := 5, ground := Ground.phase }, { on := 6, ground := Ground.phase }, { on := 7, ground := Ground.phase }, { on := 8, ground := Ground.phase }, { on := 9, ground := Ground.phase }, { on := 10, ground := Ground.phase }], guard := none }) (v := v) rfl (by kernel_rfl) (by kernel_rfl) (by kernel_rfl) (fun _ _ _ h => h) (Or.inl ⟨by rfl, fun w' h => by go_simp⟩) hH ?_
    try simp only [Act.put, List.setIfInBounds_toArray, List.set_cons_zero, List.set_cons_succ]
    refine wpAnyH_done (by kernel_rfl) ?_ _
    clear hH hK rv bX
    go_wp2_with fail
    go_ret
    exact ⟨_, rfl, R9.out, B9.out⟩
  have Q2_ : ∀ (W : World) (sa0 : Option Addr) (sn0 sc0 : Nat) (sa1 : Option Addr) (sn1 sc1 : Nat), Hid (Blk (w.heap.size) 32 ([.int .i64 td, .slice la ln lc, .slice na nn nc]) W) → Hid (Below w.heap.size w W) → Hid (RdB W (.slice sa0 sn0 sc0) (r0)) → Hid (RdB W (.slice sa1 sn1 sc1) (r1)) → G 4 #[true, true, true, true, true, true, true, true, false, false, false, false] ⟨#[.agg #[.int .i64 td, .slice la ln lc, .slice na nn nc], .pointer (some ⟨w.heap.size, 0, none⟩), .slice none 0 0, .pointer (some ⟨w.heap.size, 0, none⟩), .int .i64 td, .slice sa0 sn0 sc0, .pointer (some ⟨w.heap.size, 1, none⟩), .slice la ln lc, .slice sa1 sn1 sc1, .pointer (some ⟨w.heap.size, 2, none⟩), .slice na nn nc, undef, undef, undef], []⟩ W := by
    intro W sa0 sn0 sc0 sa1 sn1 sc1 BL BW D0 D1
    refine hG.1 _ _ _ _ ?_
    refine wpAnyH_ready (rs := [8]) (by kernel_rfl) (by simp) ?_
    refine AllReadyH.cons (o := { dst := some 11, op := Op.call { callee := Callee.value (Operand.func 41), args := #[Operand.tmp 10, Operand.func 42], argTypes := #[30, 40] }, type := 33, pos := "encode.go:77", after := #[{ on := 7, ground := Ground.data }, { on := 5, ground := Ground.chain }], guard := none }) rfl (fun K hK => ?_) AllReadyH.nil
    go_simp
    refine (C2.out W BW.out).mono ?_
    rintro e W2 ⟨v, rfl, rv, bX⟩
    obtain ⟨sa2, sc2, ev, -, -⟩ := (RowV.rd rv).len
    generalize ((r2).map bv).length = sn2 at ev
    subst ev
    have BL' : Hid (Blk (w.heap.size) 32 ([.int .i64 td, .slice la ln lc, .slice na nn nc]) W2) := BL.out.below bX
    have BW' : Hid (Below w.heap.size w W2) := below_trans BW.out bX
    have D0' : Hid (RdB W2 (.slice sa0 sn0 sc0) (r0)) := D0.out.later bX
    have D1' : Hid (RdB W2 (.slice sa1 sn1 sc1) (r1)) := D1.out.later bX
    have D2' : Hid (RdB W2 (.slice sa2 sn2 sc2) (r2)) := RowV.rd rv
    refine hK.out _ _ BL'.out (fun _ => ?_)
    try simp only [List.setIfInBounds_toArray, List.set_cons_zero, List.set_cons_succ]
    exact hG.2 _ _ _ _ (Q3_ W2 _ _ _ _ _ _ _ _ _ BL' BW' D0' D1' D2')
  have Q1_ : ∀ (W : World) (sa0 : Option Addr) (sn0 sc0 : Nat), Hid (Blk (w.heap.size) 32 ([.int .i64 td, .slice la ln lc, .slice na nn nc]) W) → Hid (Below w.heap.size w W) → Hid (RdB W (.slice sa0 sn0 sc0) (r0)) → G 5 #[true, true, true, true, true, false, true, true, false, false, false, false] ⟨#[.agg #[.int .i64 td, .slice la ln lc, .slice na nn nc], .pointer (some ⟨w.heap.size, 0, none⟩), .slice none 0 0, .pointer (some ⟨w.heap.size, 0, none⟩), .int .i64 td, .slice sa0 sn0 sc0, .pointer (some ⟨w.heap.size, 1, none⟩), .slice la ln lc, undef, .pointer (some ⟨w.heap.size, 2, none⟩), .slice na nn nc, undef, undef, undef], []⟩ W := by
    intro W sa0 sn0 sc0 BL BW D0
    refine hG.1 _ _ _ _ ?_
    refine wpAnyH_ready (rs := [5]) (by kernel_rfl) (by simp) ?_
    refine AllReadyH.cons (o := { dst := some 8, op := Op.call { callee := Callee.value (Operand.func 40), args := #[Operand.tmp 7, Operand.func 23], argTypes := #[29, 68] }, type := 33, pos := "encode.go:76", after := #[{ on := 4, ground := Ground.data }, { on := 2, ground := Ground.chain }], guard := none }) rfl (fun K hK => ?_) AllReadyH.nil
    go_simp
    refine (C1.out W BW.out).mono ?_
    rintro e W2 ⟨v, rfl, rv, bX⟩
    obtain ⟨sa1, sc1, ev, -, -⟩ := (RowV.rd rv).len
    generalize ((r1).map bv).length = sn1 at ev
    subst ev
    have BL' : Hid (Blk (w.heap.size) 32 ([.int .i64 td, .slice la ln lc, .slice na nn nc]) W2) := BL.out.below bX
    have BW' : Hid (Below w.heap.size w W2) := below_trans BW.out bX
    have D0' : Hid (RdB W2 (.slice sa0 sn0 sc0) (r0)) := D0.out.later bX
    have D1' : Hid (RdB W2 (.slice sa1 sn1 sc1) (r1)) := RowV.rd rv
    refine hK.out _ _ BL'.out (fun _ => ?_)
    try simp only [List.setIfInBounds_toArray, List.set_cons_zero, List.set_cons_succ]
    exact hG.2 _ _ _ _ (Q2_ W2 _ _ _ _ _ _ BL' BW' D0' D1')
  have Q0_ : ∀ (W : World), Hid (Blk (w.heap.size) 32 ([.int .i64 td, .slice la ln lc, .slice na nn nc]) W) → Hid (Below w.heap.size w W) → G 6 #[true, true, false, true, true, false, true, true, false, false, false, false] ⟨#[.agg #[.int .i64 td, .slice la ln lc, .slice na nn nc], .pointer (some ⟨w.heap.size, 0, none⟩), .slice none 0 0, .pointer (some ⟨w.heap.size, 0, none⟩), .int .i64 td, undef, .pointer (some ⟨w.heap.size, 1, none⟩), .slice la ln lc, undef, .pointer (some ⟨w.heap.size, 2, none⟩), .slice na nn nc, undef, undef, undef], []⟩ W := by
    intro W BL BW
    refine hG.1 _ _ _ _ ?_
    refine wpAnyH_ready (rs := [2]) (by kernel_rfl) (by simp) ?_
    refine AllReadyH.cons (o := { dst := some 5, op := Op.call { callee := Callee.value (Operand.func 37), args := #[Operand.tmp 4], argTypes := #[3] }, type := 33, pos := "encode.go:75", after := #[{ on := 1, ground := Ground.data }], guard := none }) rfl (fun K hK => ?_) AllReadyH.nil
    go_simp
    refine (C0.out W).mono ?_
    rintro e W2 ⟨v, rfl, rv, bX⟩
    obtain ⟨sa0, sc0, ev, -, -⟩ := (RowV.rd rv).len
    generalize ((r0).map bv).length = sn0 at ev
    subst ev
    have BL' : Hid (Blk (w.heap.size) 32 ([.int .i64 td, .slice la ln lc, .slice na nn nc]) W2) := BL.out.below bX
    have BW' : Hid (Below w.heap.size w W2) := below_trans BW.out bX
    have D0' : Hid (RdB W2 (.slice sa0 sn0 sc0) (r0)) := RowV.rd rv
    refine hK.out _ _ BL'.out (fun _ => ?_)
    try simp only [List.setIfInBounds_toArray, List.set_cons_zero, List.set_cons_succ]
    exact hG.2 _ _ _ _ (Q1_ W2 _ _ _ BL' BW' D0')
  exact Q0_ _ (BL0.out.drewN 1) (below_drewN BW0.out 1)
end Go.Proofs.Ytdbjjeaflfoppaa
