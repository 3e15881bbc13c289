/-
  Ours: a plan's row, a notice that is owed, a case, told (gen_wst2.py: THE SEAT's OWN NUMBERS).
-/
import Derived.Test.YtdbjjeaflfoppaaWirStE1
namespace Go.Proofs.Ytdbjjeaflfoppaa
open Go.RowKit WsM

/-- A name for the rest of a drawn region. -/
theorem anyH_name {P : Program} {md : Region.Mode} {ops : Array Oper} {Q : Exit → Act → World → Prop} {S : World → Prop} {f : Nat} {l : Array Bool} {a : Act} {w : World}
    (h : ∀ G : Nat → Array Bool → Act → World → Prop, ((∀ f l a w, wpAnyH P md ops Q S f l a w → G f l a w) ∧ (∀ f l a w, G f l a w → wpAnyH P md ops Q S f l a w)) → G f l a w) : wpAnyH P md ops Q S f l a w :=
  h (fun f l a w => wpAnyH P md ops Q S f l a w) ⟨fun _ _ _ _ h => h, fun _ _ _ _ h => h⟩
/-- Numbers that lie in a block, told. -/
theorem putIntsB_at (xs : List Int) (F n : Nat) (w : World) (hx : I64s xs) (hn : xs.length = n) (hl : n ≤ 1000) (hb : Blk F 2 (xs.map (Value.int .i64)) w) : Calls Try.prog 39 #[.slice (some ⟨F, 0, none⟩) n n] w (NewB w (putFs xs)) := by
  subst hn
  exact putInts_at xs _ _ hx (by omega) ⟨_, _, by rw [List.length_map], by rw [List.length_map]; exact Nat.le_refl _, (fun h => by cases h), fun i hi => ⟨_, 0, rfl, hb.lt, by rw [Nat.zero_add]; exact hb.cell i _ (List.getElem?_eq_getElem hi)⟩⟩
theorem putFs_le {n : Nat} {xs : List Int} (hx : I64s xs) (hn : xs.length = n) : (putFs xs).length ≤ 10 * n := by
  subst hn; exact putFs_len xs hx
theorem putB_len (z : Bool) : (putB z).length = 1 := by cases z <;> rfl
set_option maxRecDepth 40000 in
set_option maxHeartbeats 4000000 in
theorem putIns_at (a0 a1 a2 : Int) (z : Bool) (w : World) (hx : I64s [a0, a1, a2]) : Calls Try.prog 57 #[.agg #[.int .i64 a0, .int .i64 a1, .int .i64 a2, .bool z]] w (NewB w (List.flatten [putFs [a0, a1, a2], putB z])) := by
  have C0 : Hid (∀ W F, Blk F 2 [.int .i64 a0, .int .i64 a1, .int .i64 a2] W → Calls Try.prog 39 #[.slice (some ⟨F, 0, none⟩) 3 3] W (NewB W (putFs [a0, a1, a2]))) := fun W F h => putIntsB_at [a0, a1, a2] F 3 W hx rfl (by decide) h
  have C1 : Hid (∀ W, Calls Try.prog 60 #[.bool z] W (NewB W (putB z))) := fun W => putBool_at z W
  have L0 := putFs_le (n := 3) hx rfl
  have L1 := putB_len z
  clear hx
  obtain ⟨r0, hr0⟩ : ∃ r, r = putFs [a0, a1, a2] := ⟨_, rfl⟩
  obtain ⟨r1, hr1⟩ : ∃ r, r = putB z := ⟨_, rfl⟩
  rw [← hr0, ← hr1]
  rw [← hr0] at C0 L0
  rw [← hr1] at C1 L1
  have CN : Hid (∀ (W : World) (sa0 : Option Addr) (sn0 sc0 : Nat) (sa1 : Option Addr) (sn1 sc1 : Nat), RdB W (.slice sa0 sn0 sc0) r0 → RdB W (.slice sa1 sn1 sc1) r1 → Calls Try.prog 34 #[.slice (some ⟨W.heap.size, 0, none⟩) 2 2] (W.alloc (.cells #[.slice sa0 sn0 sc0, .slice sa1 sn1 sc1] 33)) (NewB W (List.flatten [r0, r1]))) := by
    intro W sa0 sn0 sc0 sa1 sn1 sc1 h0 h1
    refine concatN_at [.slice sa0 sn0 sc0, .slice sa1 sn1 sc1] [r0, r1] W 2 rfl rfl (by simp) (fun i hi => ?_) (by simp only [lenS, List.flatten_cons, List.flatten_nil, List.length_append, List.length_nil]; omega)
    match i, hi with
    | 0, _ => exact h0
    | 1, _ => exact h1
  clear hr0 hr1 L0 L1
  obtain ⟨RR, hRR⟩ : ∃ r, r = List.flatten [r0, r1] := ⟨_, rfl⟩
  rw [← hRR] at CN ⊢
  clear hRR
  have BL0 : Hid (Blk w.heap.size 108 [.int .i64 a0, .int .i64 a1, .int .i64 a2, .bool z] (w.alloc (.cells #[.int .i64 a0, .int .i64 a1, .int .i64 a2, .bool z] 108))) := Blk.new _ _ _
  have BW0 : Hid (Below w.heap.size w (w.alloc (.cells #[.int .i64 a0, .int .i64 a1, .int .i64 a2, .bool z] 108))) := below_alloc _ _
  go_enter Try.func57, Try.ntmps57
  go_upto_region 1 with fail
  refine wp_region_held_drew (S := fun w' => Blk (w.heap.size) 108 ([.int .i64 a0, .int .i64 a1, .int .i64 a2, .bool z]) w') (by kernel_rfl) (BL0.out.drewN 1) (fun hH => ?_)
  refine wpAnyH_take (i := 0) (oi := { dst := some 3, op := Op.fieldAddr 108 (Operand.tmp 1) 0, type := 0, pos := "encode.go:104", after := #[], guard := none }) (v := .pointer (some ⟨w.heap.size, 0, none⟩)) rfl (by kernel_rfl) (by kernel_rfl) (by kernel_rfl) (fun _ _ _ h => h) (Or.inl ⟨by rfl, fun w' h => by go_simp⟩) hH ?_
  try simp only [Act.put, List.setIfInBounds_toArray, List.set_cons_zero, List.set_cons_succ]
  refine wpAnyH_take (i := 1) (oi := { dst := some 4, op := Op.load 3 (Operand.tmp 3), type := 3, pos := "encode.go:104", after := #[{ on := 0, ground := Ground.data }], guard := none }) (v := .int .i64 a0) rfl (by kernel_rfl) (by kernel_rfl) (by kernel_rfl) (fun _ _ _ h => h) (Or.inl ⟨by rfl, fun w' h => by have q : w'.cell? ⟨w.heap.size, 0, none⟩ = some (.int .i64 a0) := Blk.cell h 0 _ rfl; go_simp⟩) hH ?_
  try simp only [Act.put, List.setIfInBounds_toArray, List.set_cons_zero, List.set_cons_succ]
  refine wpAnyH_take (i := 2) (oi := { dst := some 5, op := Op.fieldAddr 108 (Operand.tmp 1) 1, type := 0, pos := "encode.go:104", after := #[], guard := none }) (v := .pointer (some ⟨w.heap.size, 1, none⟩)) rfl (by kernel_rfl) (by kernel_rfl) (by kernel_rfl) (fun _ _ _ h => h) (Or.inl ⟨by rfl, fun w' h => by go_simp⟩) hH ?_
  try simp only [Act.put, List.setIfInBounds_toArray, List.set_cons_zero, List.set_cons_succ]
  refine wpAnyH_take (i := 3) (oi := { dst := some 6, op := Op.load 2 (Operand.tmp 5), type := 2, pos := "encode.go:104", after := #[{ on := 2, ground := Ground.data }], guard := none }) (v := .int .i64 a1) rfl (by kernel_rfl) (by kernel_rfl) (by kernel_rfl) (fun _ _ _ h => h) (Or.inl ⟨by rfl, fun w' h => by have q : w'.cell? ⟨w.heap.size, 1, none⟩ = some (.int .i64 a1) := Blk.cell h 1 _ rfl; go_simp⟩) hH ?_
  try simp only [Act.put, List.setIfInBounds_toArray, List.set_cons_zero, List.set_cons_succ]
  refine wpAnyH_take (i := 4) (oi := { dst := some 7, op := Op.fieldAddr 108 (Operand.tmp 1) 2, type := 0, pos := "encode.go:104", after := #[], guard := none }) (v := .pointer (some ⟨w.heap.size, 2, none⟩)) rfl (by kernel_rfl) (by kernel_rfl) (by kernel_rfl) (fun _ _ _ h => h) (Or.inl ⟨by rfl, fun w' h => by go_simp⟩) hH ?_
  try simp only [Act.put, List.setIfInBounds_toArray, List.set_cons_zero, List.set_cons_succ]
  refine wpAnyH_take (i := 5) (oi := { dst := some 8, op := Op.load 2 (Operand.tmp 7), type := 2, pos := "encode.go:104", after := #[{ on := 4, ground := Ground.data }], guard := none }) (v := .int .i64 a2) rfl (by kernel_rfl) (by kernel_rfl) (by kernel_rfl) (fun _ _ _ h => h) (Or.inl ⟨by rfl, fun w' h => by have q : w'.cell? ⟨w.heap.size, 2, none⟩ = some (.int .i64 a2) := Blk.cell h 2 _ rfl; go_simp⟩) hH ?_
  try simp only [Act.put, List.setIfInBounds_toArray, List.set_cons_zero, List.set_cons_succ]
  refine wpAnyH_take (i := 8) (oi := { dst := some 11, op := Op.fieldAddr 108 (Operand.tmp 1) 3, type := 0, pos := "encode.go:104", after := #[], guard := none }) (v := .pointer (some ⟨w.heap.size, 3, none⟩)) rfl (by kernel_rfl) (by kernel_rfl) (by kernel_rfl) (fun _ _ _ h => h) (Or.inl ⟨by rfl, fun w' h => by go_simp⟩) hH ?_
  try simp only [Act.put, List.setIfInBounds_toArray, List.set_cons_zero, List.set_cons_succ]
  refine wpAnyH_take (i := 9) (oi := { dst := some 12, op := Op.load 4 (Operand.tmp 11), type := 4, pos := "encode.go:104", after := #[{ on := 8, ground := Ground.data }], guard := none }) (v := .bool z) rfl (by kernel_rfl) (by kernel_rfl) (by kernel_rfl) (fun _ _ _ h => h) (Or.inl ⟨by rfl, fun w' h => by have q : w'.cell? ⟨w.heap.size, 3, none⟩ = some (.bool z) := Blk.cell h 3 _ rfl; go_simp⟩) hH ?_
  try simp only [Act.put, List.setIfInBounds_toArray, List.set_cons_zero, List.set_cons_succ]
  clear hH
  refine anyH_name fun G hG => ?_
  have Q2_0 : ∀ (W : World) (sa0 : Option Addr) (sn0 sc0 : Nat) (sa1 : Option Addr) (sn1 sc1 : Nat) (F0 : Nat), Hid (Blk (w.heap.size) 108 ([.int .i64 a0, .int .i64 a1, .int .i64 a2, .bool z]) W) → Hid (Below w.heap.size w W) → Hid (RdB W (.slice sa0 sn0 sc0) (r0)) → Hid (RdB W (.slice sa1 sn1 sc1) (r1)) → Hid (Blk F0 2 [.int .i64 a0, .int .i64 a1, .int .i64 a2] W) → G 3 #[true, true, true, true, true, true, true, true, true, true, true, false, false, false] ⟨#[.agg #[.int .i64 a0, .int .i64 a1, .int .i64 a2, .bool z], .pointer (some ⟨w.heap.size, 0, none⟩), .slice none 0 0, .pointer (some ⟨w.heap.size, 0, none⟩), .int .i64 a0, .pointer (some ⟨w.heap.size, 1, none⟩), .int .i64 a1, .pointer (some ⟨w.heap.size, 2, none⟩), .int .i64 a2, .slice (some ⟨F0, 0, none⟩) 3 3, .slice sa0 sn0 sc0, .pointer (some ⟨w.heap.size, 3, none⟩), .bool z, .slice sa1 sn1 sc1, undef, undef], []⟩ W := by
    intro W sa0 sn0 sc0 sa1 sn1 sc1 F0 BL BW D0 D1 G0
    refine hG.1 _ _ _ _ ?_
    refine wpAnyH_ready (rs := [11]) (by kernel_rfl) (by simp) ?_
    refine AllReadyH.cons (o := { dst := some 14, op := Op.buildSlice 126 2 #[(0, Operand.tmp 10), (1, Operand.tmp 13)], type := 126, pos := "encode.go:104", after := #[{ on := 7, ground := Ground.data }, { on := 10, ground := Ground.data }], guard := none }) rfl (fun K hK => ?_) AllReadyH.nil
    go_simp
    refine hK.out _ _ (BL.out.below (below_alloc _ _)) (fun _ => ?_)
    try simp only [List.setIfInBounds_toArray, List.set_cons_zero, List.set_cons_succ]
    refine wpAnyH_ready (rs := [12]) (by kernel_rfl) (by simp) ?_
    refine AllReadyH.cons (o := { dst := some 15, op := Op.call { callee := Callee.value (Operand.func 34), args := #[Operand.tmp 14], argTypes := #[126] }, type := 33, pos := "encode.go:104", after := #[{ on := 11, ground := Ground.data }, { on := 10, ground := Ground.chain }], guard := none }) rfl (fun K hK => ?_) AllReadyH.nil
    go_simp
    refine (CN.out W sa0 sn0 sc0 sa1 sn1 sc1 D0.out D1.out).mono ?_
    rintro e W2 ⟨v, rfl, rv, bX⟩
    have R9 : Hid (RowB 5 w.heap.size W2 v RR) := RowV.mono rv BW.out.size
    have B9 : Hid (Below w.heap.size w W2) := below_trans BW.out bX
    refine hK.out _ _ (BL.out.below bX) (fun hH => ?_)
    try simp only [List.setIfInBounds_toArray, List.set_cons_zero, List.set_cons_succ]
    refine wpAnyH_take (i := 13) (oi := { dst := some 2, op := Op.assign (Operand.tmp 15), type := 33, pos := "encode.go:104", after := #[{ on := 12, ground := Ground.data }, { on := 12, ground := Ground.chain }, { on := 0, ground := Ground.phase }, { on := 1, ground := Ground.phase }, { on := 2, ground := Ground.phase }, { on := 3, ground := Ground.phase }, { on := 4, ground := Ground.phase }, { on := 5, ground := Ground.phase }, { on := 6, ground := Ground.phase }, { on := 7, ground := Ground.phase }, { on := 8, ground := Ground.phase }, { on := 9, ground := Ground.phase }, { on := 10, ground := Ground.phase }, { on := 11, ground := Ground.phase }, { on := 12, ground := Ground.phase }], guard := none }) (v := v) rfl (by kernel_rfl) (by kernel_rfl) (by kernel_rfl) (fun _ _ _ h => h) (Or.inl ⟨by rfl, fun w' h => by go_simp⟩) hH ?_
    try simp only [Act.put, List.setIfInBounds_toArray, List.set_cons_zero, List.set_cons_succ]
    refine wpAnyH_done (by kernel_rfl) ?_ _
    clear hH hK rv bX
    go_wp2_with fail
    go_ret
    exact ⟨_, rfl, R9.out, B9.out⟩
  have Q1_0 : ∀ (W : World) (sa0 : Option Addr) (sn0 sc0 : Nat) (F0 : Nat), Hid (Blk (w.heap.size) 108 ([.int .i64 a0, .int .i64 a1, .int .i64 a2, .bool z]) W) → Hid (Below w.heap.size w W) → Hid (RdB W (.slice sa0 sn0 sc0) (r0)) → Hid (Blk F0 2 [.int .i64 a0, .int .i64 a1, .int .i64 a2] W) → G 4 #[true, true, true, true, true, true, true, true, true, true, false, false, false, false] ⟨#[.agg #[.int .i64 a0, .int .i64 a1, .int .i64 a2, .bool z], .pointer (some ⟨w.heap.size, 0, none⟩), .slice none 0 0, .pointer (some ⟨w.heap.size, 0, none⟩), .int .i64 a0, .pointer (some ⟨w.heap.size, 1, none⟩), .int .i64 a1, .pointer (some ⟨w.heap.size, 2, none⟩), .int .i64 a2, .slice (some ⟨F0, 0, none⟩) 3 3, .slice sa0 sn0 sc0, .pointer (some ⟨w.heap.size, 3, none⟩), .bool z, undef, undef, undef], []⟩ W := by
    intro W sa0 sn0 sc0 F0 BL BW D0 G0
    refine hG.1 _ _ _ _ ?_
    refine wpAnyH_ready (rs := [10]) (by kernel_rfl) (by simp) ?_
    refine AllReadyH.cons (o := { dst := some 13, op := Op.call { callee := Callee.value (Operand.func 60), args := #[Operand.tmp 12], argTypes := #[4] }, type := 33, pos := "encode.go:104", after := #[{ on := 9, ground := Ground.data }, { on := 7, ground := Ground.chain }], guard := none }) rfl (fun K hK => ?_) AllReadyH.nil
    go_simp
    refine (C1.out W).mono ?_
    rintro e W2 ⟨v, rfl, rv, bX⟩
    obtain ⟨sa1, sc1, ev, -, -⟩ := (RowV.rd rv).len
    generalize ((r1).map bv).length = sn1 at ev
    subst ev
    have BL' : Hid (Blk (w.heap.size) 108 ([.int .i64 a0, .int .i64 a1, .int .i64 a2, .bool z]) W2) := BL.out.below bX
    have BW' : Hid (Below w.heap.size w W2) := below_trans BW.out bX
    have D0' : Hid (RdB W2 (.slice sa0 sn0 sc0) (r0)) := D0.out.later bX
    have D1' : Hid (RdB W2 (.slice sa1 sn1 sc1) (r1)) := RowV.rd rv
    have G0' : Hid (Blk F0 2 [.int .i64 a0, .int .i64 a1, .int .i64 a2] W2) := G0.out.below bX
    refine hK.out _ _ BL'.out (fun _ => ?_)
    try simp only [List.setIfInBounds_toArray, List.set_cons_zero, List.set_cons_succ]
    exact hG.2 _ _ _ _ (Q2_0 W2 _ _ _ _ _ _ _ BL' BW' D0' D1' G0')
  have Q0_0 : ∀ (W : World) (F0 : Nat), Hid (Blk (w.heap.size) 108 ([.int .i64 a0, .int .i64 a1, .int .i64 a2, .bool z]) W) → Hid (Below w.heap.size w W) → Hid (Blk F0 2 [.int .i64 a0, .int .i64 a1, .int .i64 a2] W) → G 5 #[true, true, true, true, true, true, true, false, true, true, false, false, false, false] ⟨#[.agg #[.int .i64 a0, .int .i64 a1, .int .i64 a2, .bool z], .pointer (some ⟨w.heap.size, 0, none⟩), .slice none 0 0, .pointer (some ⟨w.heap.size, 0, none⟩), .int .i64 a0, .pointer (some ⟨w.heap.size, 1, none⟩), .int .i64 a1, .pointer (some ⟨w.heap.size, 2, none⟩), .int .i64 a2, .slice (some ⟨F0, 0, none⟩) 3 3, undef, .pointer (some ⟨w.heap.size, 3, none⟩), .bool z, undef, undef, undef], []⟩ W := by
    intro W F0 BL BW G0
    refine hG.1 _ _ _ _ ?_
    refine wpAnyH_ready (rs := [7]) (by kernel_rfl) (by simp) ?_
    refine AllReadyH.cons (o := { dst := some 10, op := Op.call { callee := Callee.value (Operand.func 39), args := #[Operand.tmp 9], argTypes := #[110] }, type := 33, pos := "encode.go:104", after := #[{ on := 6, ground := Ground.data }], guard := none }) rfl (fun K hK => ?_) AllReadyH.nil
    go_simp
    refine (C0.out W F0 G0.out).mono ?_
    rintro e W2 ⟨v, rfl, rv, bX⟩
    obtain ⟨sa0, sc0, ev, -, -⟩ := (RowV.rd rv).len
    generalize ((r0).map bv).length = sn0 at ev
    subst ev
    have BL' : Hid (Blk (w.heap.size) 108 ([.int .i64 a0, .int .i64 a1, .int .i64 a2, .bool z]) W2) := BL.out.below bX
    have BW' : Hid (Below w.heap.size w W2) := below_trans BW.out bX
    have D0' : Hid (RdB W2 (.slice sa0 sn0 sc0) (r0)) := RowV.rd rv
    have G0' : Hid (Blk F0 2 [.int .i64 a0, .int .i64 a1, .int .i64 a2] W2) := G0.out.below bX
    refine hK.out _ _ BL'.out (fun _ => ?_)
    try simp only [List.setIfInBounds_toArray, List.set_cons_zero, List.set_cons_succ]
    exact hG.2 _ _ _ _ (Q1_0 W2 _ _ _ _ BL' BW' D0' G0')
  have Q0_ : ∀ (W : World), Hid (Blk (w.heap.size) 108 ([.int .i64 a0, .int .i64 a1, .int .i64 a2, .bool z]) W) → Hid (Below w.heap.size w W) → G 6 #[true, true, true, true, true, true, false, false, true, true, false, false, false, false] ⟨#[.agg #[.int .i64 a0, .int .i64 a1, .int .i64 a2, .bool z], .pointer (some ⟨w.heap.size, 0, none⟩), .slice none 0 0, .pointer (some ⟨w.heap.size, 0, none⟩), .int .i64 a0, .pointer (some ⟨w.heap.size, 1, none⟩), .int .i64 a1, .pointer (some ⟨w.heap.size, 2, none⟩), .int .i64 a2, undef, undef, .pointer (some ⟨w.heap.size, 3, none⟩), .bool z, undef, undef, undef], []⟩ W := by
    intro W BL BW
    refine hG.1 _ _ _ _ ?_
    refine wpAnyH_ready (rs := [6]) (by kernel_rfl) (by simp) ?_
    refine AllReadyH.cons (o := { dst := some 9, op := Op.buildSlice 110 3 #[(0, Operand.tmp 4), (1, Operand.tmp 6), (2, Operand.tmp 8)], type := 110, pos := "encode.go:104", after := #[{ on := 1, ground := Ground.data }, { on := 3, ground := Ground.data }, { on := 5, ground := Ground.data }], guard := none }) rfl (fun K hK => ?_) AllReadyH.nil
    go_simp
    have bX := below_alloc W (.cells #[.int .i64 a0, .int .i64 a1, .int .i64 a2] 2)
    have G0' : Hid (Blk W.heap.size 2 [.int .i64 a0, .int .i64 a1, .int .i64 a2] (W.alloc (.cells #[.int .i64 a0, .int .i64 a1, .int .i64 a2] 2))) := Blk.new _ _ _
    have BL' : Hid (Blk (w.heap.size) 108 ([.int .i64 a0, .int .i64 a1, .int .i64 a2, .bool z]) (W.alloc (.cells #[.int .i64 a0, .int .i64 a1, .int .i64 a2] 2))) := BL.out.below bX
    have BW' : Hid (Below w.heap.size w (W.alloc (.cells #[.int .i64 a0, .int .i64 a1, .int .i64 a2] 2))) := below_trans BW.out bX
    refine hK.out _ _ BL'.out (fun _ => ?_)
    try simp only [List.setIfInBounds_toArray, List.set_cons_zero, List.set_cons_succ]
    exact hG.2 _ _ _ _ (Q0_0 _ _ BL' BW' G0')
  exact Q0_ _ (BL0.out.drewN 1) (below_drewN BW0.out 1)
theorem sizeNt (a0 a1 a2 a3 a4 : Int) (z : Bool) : (Try.prog.info? 28).map (·.size) = some ([.int .i64 a0, .int .i64 a1, .int .i64 a2, .int .i64 a3, .int .i64 a4, .bool z] : List Value).length := by show _ = some 6; kernel_rfl
set_option maxRecDepth 40000 in
set_option maxHeartbeats 4000000 in
theorem putOwed_at (a0 a1 a2 a3 a4 : Int) (z : Bool) (w : World) (hx : I64s [a0, a1, a2, a3, a4]) : Calls Try.prog 42 #[.agg #[.int .i64 a0, .int .i64 a1, .int .i64 a2, .int .i64 a3, .int .i64 a4, .bool z]] w (NewB w (List.flatten [putFs [a0, a1, a2, a3, a4], putB z])) := by
  have C0 : Hid (∀ W, Calls Try.prog 12 #[.agg #[.int .i64 a0, .int .i64 a1, .int .i64 a2, .int .i64 a3, .int .i64 a4, .bool z]] W (NewB W (putFs [a0, a1, a2, a3, a4]))) := fun W => encNotice_at a0 a1 a2 a3 a4 z hx W
  have C1 : Hid (∀ W, Calls Try.prog 60 #[.bool z] W (NewB W (putB z))) := fun W => putBool_at z W
  have L0 := putFs_le (n := 5) hx rfl
  have L1 := putB_len z
  have hu := Try.underlying28
  have hi := sizeNt a0 a1 a2 a3 a4 z
  clear hx
  obtain ⟨r0, hr0⟩ : ∃ r, r = putFs [a0, a1, a2, a3, a4] := ⟨_, rfl⟩
  obtain ⟨r1, hr1⟩ : ∃ r, r = putB z := ⟨_, rfl⟩
  rw [← hr0, ← hr1]
  rw [← hr0] at C0 L0
  rw [← hr1] at C1 L1
  have CN : Hid (∀ (W : World) (sa0 : Option Addr) (sn0 sc0 : Nat) (sa1 : Option Addr) (sn1 sc1 : Nat), RdB W (.slice sa0 sn0 sc0) r0 → RdB W (.slice sa1 sn1 sc1) r1 → Calls Try.prog 34 #[.slice (some ⟨W.heap.size, 0, none⟩) 2 2] (W.alloc (.cells #[.slice sa0 sn0 sc0, .slice sa1 sn1 sc1] 33)) (NewB W (List.flatten [r0, r1]))) := by
    intro W sa0 sn0 sc0 sa1 sn1 sc1 h0 h1
    refine concatN_at [.slice sa0 sn0 sc0, .slice sa1 sn1 sc1] [r0, r1] W 2 rfl rfl (by simp) (fun i hi => ?_) (by simp only [lenS, List.flatten_cons, List.flatten_nil, List.length_append, List.length_nil]; omega)
    match i, hi with
    | 0, _ => exact h0
    | 1, _ => exact h1
  clear hr0 hr1 L0 L1
  obtain ⟨RR, hRR⟩ : ∃ r, r = List.flatten [r0, r1] := ⟨_, rfl⟩
  rw [← hRR] at CN ⊢
  clear hRR
  have BL0 : Hid (Blk w.heap.size 28 [.int .i64 a0, .int .i64 a1, .int .i64 a2, .int .i64 a3, .int .i64 a4, .bool z] (w.alloc (.cells #[.int .i64 a0, .int .i64 a1, .int .i64 a2, .int .i64 a3, .int .i64 a4, .bool z] 28))) := Blk.new _ _ _
  have BW0 : Hid (Below w.heap.size w (w.alloc (.cells #[.int .i64 a0, .int .i64 a1, .int .i64 a2, .int .i64 a3, .int .i64 a4, .bool z] 28))) := below_alloc _ _
  go_enter Try.func42, Try.ntmps42
  go_upto_region 1 with fail
  refine wp_region_held_drew (S := fun w' => Blk (w.heap.size) 28 ([.int .i64 a0, .int .i64 a1, .int .i64 a2, .int .i64 a3, .int .i64 a4, .bool z]) w') (by kernel_rfl) (BL0.out.drewN 1) (fun hH => ?_)
  refine wpAnyH_take (i := 0) (oi := { dst := some 3, op := Op.load 28 (Operand.tmp 1), type := 28, pos := "encode.go:96", after := #[], guard := none }) (v := .agg ([.int .i64 a0, .int .i64 a1, .int .i64 a2, .int .i64 a3, .int .i64 a4, .bool z]).toArray) rfl (by kernel_rfl) (by kernel_rfl) (by kernel_rfl) (fun _ _ _ h => h) (yieldsIf_load_mid (by rfl) _ _ rfl w.heap.size 0 rfl ([.int .i64 a0, .int .i64 a1, .int .i64 a2, .int .i64 a3, .int .i64 a4, .bool z]) _ (fun w' h => Blk.all h) hu rfl hi) hH ?_
  try simp only [Act.put, List.setIfInBounds_toArray, List.set_cons_zero, List.set_cons_succ]
  refine wpAnyH_take (i := 2) (oi := { dst := some 5, op := Op.fieldAddr 28 (Operand.tmp 1) 5, type := 0, pos := "encode.go:96", after := #[], guard := none }) (v := .pointer (some ⟨w.heap.size, 5, none⟩)) rfl (by kernel_rfl) (by kernel_rfl) (by kernel_rfl) (fun _ _ _ h => h) (Or.inl ⟨by rfl, fun w' h => by go_simp⟩) hH ?_
  try simp only [Act.put, List.setIfInBounds_toArray, List.set_cons_zero, List.set_cons_succ]
  refine wpAnyH_take (i := 3) (oi := { dst := some 6, op := Op.load 4 (Operand.tmp 5), type := 4, pos := "encode.go:96", after := #[{ on := 2, ground := Ground.data }], guard := none }) (v := .bool z) rfl (by kernel_rfl) (by kernel_rfl) (by kernel_rfl) (fun _ _ _ h => h) (Or.inl ⟨by rfl, fun w' h => by have q : w'.cell? ⟨w.heap.size, 5, none⟩ = some (.bool z) := Blk.cell h 5 _ rfl; go_simp⟩) hH ?_
  try simp only [Act.put, List.setIfInBounds_toArray, List.set_cons_zero, List.set_cons_succ]
  clear hH
  refine anyH_name fun G hG => ?_
  have Q2_ : ∀ (W : World) (sa0 : Option Addr) (sn0 sc0 : Nat) (sa1 : Option Addr) (sn1 sc1 : Nat), Hid (Blk (w.heap.size) 28 ([.int .i64 a0, .int .i64 a1, .int .i64 a2, .int .i64 a3, .int .i64 a4, .bool z]) W) → Hid (Below w.heap.size w W) → Hid (RdB W (.slice sa0 sn0 sc0) (r0)) → Hid (RdB W (.slice sa1 sn1 sc1) (r1)) → G 3 #[true, true, true, true, true, false, false, false] ⟨#[.agg #[.int .i64 a0, .int .i64 a1, .int .i64 a2, .int .i64 a3, .int .i64 a4, .bool z], .pointer (some ⟨w.heap.size, 0, none⟩), .slice none 0 0, .agg ([.int .i64 a0, .int .i64 a1, .int .i64 a2, .int .i64 a3, .int .i64 a4, .bool z]).toArray, .slice sa0 sn0 sc0, .pointer (some ⟨w.heap.size, 5, none⟩), .bool z, .slice sa1 sn1 sc1, undef, undef], []⟩ W := by
    intro W sa0 sn0 sc0 sa1 sn1 sc1 BL BW D0 D1
    refine hG.1 _ _ _ _ ?_
    refine wpAnyH_ready (rs := [5]) (by kernel_rfl) (by simp) ?_
    refine AllReadyH.cons (o := { dst := some 8, op := Op.buildSlice 126 2 #[(0, Operand.tmp 4), (1, Operand.tmp 7)], type := 126, pos := "encode.go:96", after := #[{ on := 1, ground := Ground.data }, { on := 4, ground := Ground.data }], guard := none }) rfl (fun K hK => ?_) AllReadyH.nil
    go_simp
    refine hK.out _ _ (BL.out.below (below_alloc _ _)) (fun _ => ?_)
    try simp only [List.setIfInBounds_toArray, List.set_cons_zero, List.set_cons_succ]
    refine wpAnyH_ready (rs := [6]) (by kernel_rfl) (by simp) ?_
    refine AllReadyH.cons (o := { dst := some 9, op := Op.call { callee := Callee.value (Operand.func 34), args := #[Operand.tmp 8], argTypes := #[126] }, type := 33, pos := "encode.go:96", after := #[{ on := 5, ground := Ground.data }, { on := 4, ground := Ground.chain }], guard := none }) rfl (fun K hK => ?_) AllReadyH.nil
    go_simp
    refine (CN.out W sa0 sn0 sc0 sa1 sn1 sc1 D0.out D1.out).mono ?_
    rintro e W2 ⟨v, rfl, rv, bX⟩
    have R9 : Hid (RowB 5 w.heap.size W2 v RR) := RowV.mono rv BW.out.size
    have B9 : Hid (Below w.heap.size w W2) := below_trans BW.out bX
    refine hK.out _ _ (BL.out.below bX) (fun hH => ?_)
    try simp only [List.setIfInBounds_toArray, List.set_cons_zero, List.set_cons_succ]
    refine wpAnyH_take (i := 7) (oi := { dst := some 2, op := Op.assign (Operand.tmp 9), type := 33, pos := "encode.go:96", after := #[{ on := 6, ground := Ground.data }, { on := 6, ground := Ground.chain }, { on := 0, ground := Ground.phase }, { on := 1, ground := Ground.phase }, { on := 2, ground := Ground.phase }, { on := 3, ground := Ground.phase }, { on := 4, ground := Ground.phase }, { on := 5, ground := Ground.phase }, { on := 6, ground := Ground.phase }], guard := none }) (v := v) rfl (by kernel_rfl) (by kernel_rfl) (by kernel_rfl) (fun _ _ _ h => h) (Or.inl ⟨by rfl, fun w' h => by go_simp⟩) hH ?_
    try simp only [Act.put, List.setIfInBounds_toArray, List.set_cons_zero, List.set_cons_succ]
    refine wpAnyH_done (by kernel_rfl) ?_ _
    clear hH hK rv bX
    go_wp2_with fail
    go_ret
    exact ⟨_, rfl, R9.out, B9.out⟩
  have Q1_ : ∀ (W : World) (sa0 : Option Addr) (sn0 sc0 : Nat), Hid (Blk (w.heap.size) 28 ([.int .i64 a0, .int .i64 a1, .int .i64 a2, .int .i64 a3, .int .i64 a4, .bool z]) W) → Hid (Below w.heap.size w W) → Hid (RdB W (.slice sa0 sn0 sc0) (r0)) → G 4 #[true, true, true, true, false, false, false, false] ⟨#[.agg #[.int .i64 a0, .int .i64 a1, .int .i64 a2, .int .i64 a3, .int .i64 a4, .bool z], .pointer (some ⟨w.heap.size, 0, none⟩), .slice none 0 0, .agg ([.int .i64 a0, .int .i64 a1, .int .i64 a2, .int .i64 a3, .int .i64 a4, .bool z]).toArray, .slice sa0 sn0 sc0, .pointer (some ⟨w.heap.size, 5, none⟩), .bool z, undef, undef, undef], []⟩ W := by
    intro W sa0 sn0 sc0 BL BW D0
    refine hG.1 _ _ _ _ ?_
    refine wpAnyH_ready (rs := [4]) (by kernel_rfl) (by simp) ?_
    refine AllReadyH.cons (o := { dst := some 7, op := Op.call { callee := Callee.value (Operand.func 60), args := #[Operand.tmp 6], argTypes := #[4] }, type := 33, pos := "encode.go:96", after := #[{ on := 3, ground := Ground.data }, { on := 1, ground := Ground.chain }], guard := none }) rfl (fun K hK => ?_) AllReadyH.nil
    go_simp
    refine (C1.out W).mono ?_
    rintro e W2 ⟨v, rfl, rv, bX⟩
    obtain ⟨sa1, sc1, ev, -, -⟩ := (RowV.rd rv).len
    generalize ((r1).map bv).length = sn1 at ev
    subst ev
    have BL' : Hid (Blk (w.heap.size) 28 ([.int .i64 a0, .int .i64 a1, .int .i64 a2, .int .i64 a3, .int .i64 a4, .bool z]) W2) := BL.out.below bX
    have BW' : Hid (Below w.heap.size w W2) := below_trans BW.out bX
    have D0' : Hid (RdB W2 (.slice sa0 sn0 sc0) (r0)) := D0.out.later bX
    have D1' : Hid (RdB W2 (.slice sa1 sn1 sc1) (r1)) := RowV.rd rv
    refine hK.out _ _ BL'.out (fun _ => ?_)
    try simp only [List.setIfInBounds_toArray, List.set_cons_zero, List.set_cons_succ]
    exact hG.2 _ _ _ _ (Q2_ W2 _ _ _ _ _ _ BL' BW' D0' D1')
  have Q0_ : ∀ (W : World), Hid (Blk (w.heap.size) 28 ([.int .i64 a0, .int .i64 a1, .int .i64 a2, .int .i64 a3, .int .i64 a4, .bool z]) W) → Hid (Below w.heap.size w W) → G 5 #[true, false, true, true, false, false, false, false] ⟨#[.agg #[.int .i64 a0, .int .i64 a1, .int .i64 a2, .int .i64 a3, .int .i64 a4, .bool z], .pointer (some ⟨w.heap.size, 0, none⟩), .slice none 0 0, .agg ([.int .i64 a0, .int .i64 a1, .int .i64 a2, .int .i64 a3, .int .i64 a4, .bool z]).toArray, undef, .pointer (some ⟨w.heap.size, 5, none⟩), .bool z, undef, undef, undef], []⟩ W := by
    intro W BL BW
    refine hG.1 _ _ _ _ ?_
    refine wpAnyH_ready (rs := [1]) (by kernel_rfl) (by simp) ?_
    refine AllReadyH.cons (o := { dst := some 4, op := Op.call { callee := Callee.value (Operand.func 12), args := #[Operand.tmp 3], argTypes := #[28] }, type := 33, pos := "encode.go:96", after := #[{ on := 0, ground := Ground.data }], guard := none }) rfl (fun K hK => ?_) AllReadyH.nil
    go_simp
    refine (C0.out W).mono ?_
    rintro e W2 ⟨v, rfl, rv, bX⟩
    obtain ⟨sa0, sc0, ev, -, -⟩ := (RowV.rd rv).len
    generalize ((r0).map bv).length = sn0 at ev
    subst ev
    have BL' : Hid (Blk (w.heap.size) 28 ([.int .i64 a0, .int .i64 a1, .int .i64 a2, .int .i64 a3, .int .i64 a4, .bool z]) W2) := BL.out.below bX
    have BW' : Hid (Below w.heap.size w W2) := below_trans BW.out bX
    have D0' : Hid (RdB W2 (.slice sa0 sn0 sc0) (r0)) := RowV.rd rv
    refine hK.out _ _ BL'.out (fun _ => ?_)
    try simp only [List.setIfInBounds_toArray, List.set_cons_zero, List.set_cons_succ]
    exact hG.2 _ _ _ _ (Q1_ W2 _ _ _ BL' BW' D0')
  exact Q0_ _ (BL0.out.drewN 1) (below_drewN BW0.out 1)
set_option maxRecDepth 40000 in
set_option maxHeartbeats 4000000 in
theorem putCase_at (s : Int) (z : Bool) (a0 a1 a2 a3 a4 a5 a6 a7 a8 a9 a10 a11 a12 : Int) (w : World) (hs : I64s [s]) (hx : I64s [a0, a1, a2, a3, a4, a5, a6, a7, a8, a9, a10, a11, a12]) : Calls Try.prog 58 #[.agg #[.int .i64 s, .bool z, .int .i64 a0, .int .i64 a1, .int .i64 a2, .int .i64 a3, .int .i64 a4, .int .i64 a5, .int .i64 a6, .int .i64 a7, .int .i64 a8, .int .i64 a9, .int .i64 a10, .int .i64 a11, .int .i64 a12]] w (NewB w (List.flatten [putI s, putB z, putFs [a0, a1, a2, a3, a4, a5, a6, a7, a8, a9, a10, a11, a12]])) := by
  have C0 : Hid (∀ W, Calls Try.prog 37 #[.int .i64 s] W (NewB W (putI s))) := fun W => putNumber_at s (hs s (by simp)) W
  have C1 : Hid (∀ W, Calls Try.prog 60 #[.bool z] W (NewB W (putB z))) := fun W => putBool_at z W
  have C2 : Hid (∀ W F, Blk F 2 [.int .i64 a0, .int .i64 a1, .int .i64 a2, .int .i64 a3, .int .i64 a4, .int .i64 a5, .int .i64 a6, .int .i64 a7, .int .i64 a8, .int .i64 a9, .int .i64 a10, .int .i64 a11, .int .i64 a12] W → Calls Try.prog 39 #[.slice (some ⟨F, 0, none⟩) 13 13] W (NewB W (putFs [a0, a1, a2, a3, a4, a5, a6, a7, a8, a9, a10, a11, a12]))) := fun W F h => putIntsB_at [a0, a1, a2, a3, a4, a5, a6, a7, a8, a9, a10, a11, a12] F 13 W hx rfl (by decide) h
  have L0 := putI_len s (hs s (by simp))
  have L1 := putB_len z
  have L2 := putFs_le (n := 13) hx rfl
  clear hx hs
  obtain ⟨r0, hr0⟩ : ∃ r, r = putI s := ⟨_, rfl⟩
  obtain ⟨r1, hr1⟩ : ∃ r, r = putB z := ⟨_, rfl⟩
  obtain ⟨r2, hr2⟩ : ∃ r, r = putFs [a0, a1, a2, a3, a4, a5, a6, a7, a8, a9, a10, a11, a12] := ⟨_, rfl⟩
  rw [← hr0, ← hr1, ← hr2]
  rw [← hr0] at C0 L0
  rw [← hr1] at C1 L1
  rw [← hr2] at C2 L2
  have CN : Hid (∀ (W : World) (sa0 : Option Addr) (sn0 sc0 : Nat) (sa1 : Option Addr) (sn1 sc1 : Nat) (sa2 : Option Addr) (sn2 sc2 : Nat), RdB W (.slice sa0 sn0 sc0) r0 → RdB W (.slice sa1 sn1 sc1) r1 → RdB W (.slice sa2 sn2 sc2) r2 → Calls Try.prog 34 #[.slice (some ⟨W.heap.size, 0, none⟩) 3 3] (W.alloc (.cells #[.slice sa0 sn0 sc0, .slice sa1 sn1 sc1, .slice sa2 sn2 sc2] 33)) (NewB W (List.flatten [r0, r1, r2]))) := by
    intro W sa0 sn0 sc0 sa1 sn1 sc1 sa2 sn2 sc2 h0 h1 h2
    refine concatN_at [.slice sa0 sn0 sc0, .slice sa1 sn1 sc1, .slice sa2 sn2 sc2] [r0, r1, r2] W 3 rfl rfl (by simp) (fun i hi => ?_) (by simp only [lenS, List.flatten_cons, List.flatten_nil, List.length_append, List.length_nil]; omega)
    match i, hi with
    | 0, _ => exact h0
    | 1, _ => exact h1
    | 2, _ => exact h2
  clear hr0 hr1 hr2 L0 L1 L2
  obtain ⟨RR, hRR⟩ : ∃ r, r = List.flatten [r0, r1, r2] := ⟨_, rfl⟩
  rw [← hRR] at CN ⊢
  clear hRR
  have BL0 : Hid (Blk w.heap.size 61 [.int .i64 s, .bool z, .int .i64 a0, .int .i64 a1, .int .i64 a2, .int .i64 a3, .int .i64 a4, .int .i64 a5, .int .i64 a6, .int .i64 a7, .int .i64 a8, .int .i64 a9, .int .i64 a10, .int .i64 a11, .int .i64 a12] (w.alloc (.cells #[.int .i64 s, .bool z, .int .i64 a0, .int .i64 a1, .int .i64 a2, .int .i64 a3, .int .i64 a4, .int .i64 a5, .int .i64 a6, .int .i64 a7, .int .i64 a8, .int .i64 a9, .int .i64 a10, .int .i64 a11, .int .i64 a12] 61))) := Blk.new _ _ _
  have BW0 : Hid (Below w.heap.size w (w.alloc (.cells #[.int .i64 s, .bool z, .int .i64 a0, .int .i64 a1, .int .i64 a2, .int .i64 a3, .int .i64 a4, .int .i64 a5, .int .i64 a6, .int .i64 a7, .int .i64 a8, .int .i64 a9, .int .i64 a10, .int .i64 a11, .int .i64 a12] 61))) := below_alloc _ _
  go_enter Try.func58, Try.ntmps58
  go_upto_region 1 with fail
  refine wp_region_held_drew (S := fun w' => Blk (w.heap.size) 61 ([.int .i64 s, .bool z, .int .i64 a0, .int .i64 a1, .int .i64 a2, .int .i64 a3, .int .i64 a4, .int .i64 a5, .int .i64 a6, .int .i64 a7, .int .i64 a8, .int .i64 a9, .int .i64 a10, .int .i64 a11, .int .i64 a12]) w') (by kernel_rfl) (BL0.out.drewN 1) (fun hH => ?_)
  refine wpAnyH_take (i := 0) (oi := { dst := some 3, op := Op.fieldAddr 61 (Operand.tmp 1) 0, type := 0, pos := "encode.go:108", after := #[], guard := none }) (v := .pointer (some ⟨w.heap.size, 0, none⟩)) rfl (by kernel_rfl) (by kernel_rfl) (by kernel_rfl) (fun _ _ _ h => h) (Or.inl ⟨by rfl, fun w' h => by go_simp⟩) hH ?_
  try simp only [Act.put, List.setIfInBounds_toArray, List.set_cons_zero, List.set_cons_succ]
  refine wpAnyH_take (i := 1) (oi := { dst := some 4, op := Op.load 3 (Operand.tmp 3), type := 3, pos := "encode.go:108", after := #[{ on := 0, ground := Ground.data }], guard := none }) (v := .int .i64 s) rfl (by kernel_rfl) (by kernel_rfl) (by kernel_rfl) (fun _ _ _ h => h) (Or.inl ⟨by rfl, fun w' h => by have q : w'.cell? ⟨w.heap.size, 0, none⟩ = some (.int .i64 s) := Blk.cell h 0 _ rfl; go_simp⟩) hH ?_
  try simp only [Act.put, List.setIfInBounds_toArray, List.set_cons_zero, List.set_cons_succ]
  refine wpAnyH_take (i := 3) (oi := { dst := some 6, op := Op.fieldAddr 61 (Operand.tmp 1) 1, type := 0, pos := "encode.go:108", after := #[], guard := none }) (v := .pointer (some ⟨w.heap.size, 1, none⟩)) rfl (by kernel_rfl) (by kernel_rfl) (by kernel_rfl) (fun _ _ _ h => h) (Or.inl ⟨by rfl, fun w' h => by go_simp⟩) hH ?_
  try simp only [Act.put, List.setIfInBounds_toArray, List.set_cons_zero, List.set_cons_succ]
  refine wpAnyH_take (i := 4) (oi := { dst := some 7, op := Op.load 4 (Operand.tmp 6), type := 4, pos := "encode.go:108", after := #[{ on := 3, ground := Ground.data }], guard := none }) (v := .bool z) rfl (by kernel_rfl) (by kernel_rfl) (by kernel_rfl) (fun _ _ _ h => h) (Or.inl ⟨by rfl, fun w' h => by have q : w'.cell? ⟨w.heap.size, 1, none⟩ = some (.bool z) := Blk.cell h 1 _ rfl; go_simp⟩) hH ?_
  try simp only [Act.put, List.setIfInBounds_toArray, List.set_cons_zero, List.set_cons_succ]
  refine wpAnyH_take (i := 6) (oi := { dst := some 9, op := Op.fieldAddr 61 (Operand.tmp 1) 2, type := 0, pos := "encode.go:108", after := #[], guard := none }) (v := .pointer (some ⟨w.heap.size, 2, none⟩)) rfl (by kernel_rfl) (by kernel_rfl) (by kernel_rfl) (fun _ _ _ h => h) (Or.inl ⟨by rfl, fun w' h => by go_simp⟩) hH ?_
  try simp only [Act.put, List.setIfInBounds_toArray, List.set_cons_zero, List.set_cons_succ]
  refine wpAnyH_take (i := 7) (oi := { dst := some 10, op := Op.load 3 (Operand.tmp 9), type := 3, pos := "encode.go:108", after := #[{ on := 6, ground := Ground.data }], guard := none }) (v := .int .i64 a0) rfl (by kernel_rfl) (by kernel_rfl) (by kernel_rfl) (fun _ _ _ h => h) (Or.inl ⟨by rfl, fun w' h => by have q : w'.cell? ⟨w.heap.size, 2, none⟩ = some (.int .i64 a0) := Blk.cell h 2 _ rfl; go_simp⟩) hH ?_
  try simp only [Act.put, List.setIfInBounds_toArray, List.set_cons_zero, List.set_cons_succ]
  refine wpAnyH_take (i := 8) (oi := { dst := some 11, op := Op.fieldAddr 61 (Operand.tmp 1) 3, type := 0, pos := "encode.go:108", after := #[], guard := none }) (v := .pointer (some ⟨w.heap.size, 3, none⟩)) rfl (by kernel_rfl) (by kernel_rfl) (by kernel_rfl) (fun _ _ _ h => h) (Or.inl ⟨by rfl, fun w' h => by go_simp⟩) hH ?_
  try simp only [Act.put, List.setIfInBounds_toArray, List.set_cons_zero, List.set_cons_succ]
  refine wpAnyH_take (i := 9) (oi := { dst := some 12, op := Op.load 3 (Operand.tmp 11), type := 3, pos := "encode.go:108", after := #[{ on := 8, ground := Ground.data }], guard := none }) (v := .int .i64 a1) rfl (by kernel_rfl) (by kernel_rfl) (by kernel_rfl) (fun _ _ _ h => h) (Or.inl ⟨by rfl, fun w' h => by have q : w'.cell? ⟨w.heap.size, 3, none⟩ = some (.int .i64 a1) := Blk.cell h 3 _ rfl; go_simp⟩) hH ?_
  try simp only [Act.put, List.setIfInBounds_toArray, List.set_cons_zero, List.set_cons_succ]
  refine wpAnyH_take (i := 10) (oi := { dst := some 13, op := Op.fieldAddr 61 (Operand.tmp 1) 4, type := 0, pos := "encode.go:108", after := #[], guard := none }) (v := .pointer (some ⟨w.heap.size, 4, none⟩)) rfl (by kernel_rfl) (by kernel_rfl) (by kernel_rfl) (fun _ _ _ h => h) (Or.inl ⟨by rfl, fun w' h => by go_simp⟩) hH ?_
  try simp only [Act.put, List.setIfInBounds_toArray, List.set_cons_zero, List.set_cons_succ]
  refine wpAnyH_take (i := 11) (oi := { dst := some 14, op := Op.load 3 (Operand.tmp 13), type := 3, pos := "encode.go:108", after := #[{ on := 10, ground := Ground.data }], guard := none }) (v := .int .i64 a2) rfl (by kernel_rfl) (by kernel_rfl) (by kernel_rfl) (fun _ _ _ h => h) (Or.inl ⟨by rfl, fun w' h => by have q : w'.cell? ⟨w.heap.size, 4, none⟩ = some (.int .i64 a2) := Blk.cell h 4 _ rfl; go_simp⟩) hH ?_
  try simp only [Act.put, List.setIfInBounds_toArray, List.set_cons_zero, List.set_cons_succ]
  refine wpAnyH_take (i := 12) (oi := { dst := some 15, op := Op.fieldAddr 61 (Operand.tmp 1) 5, type := 0, pos := "encode.go:108", after := #[], guard := none }) (v := .pointer (some ⟨w.heap.size, 5, none⟩)) rfl (by kernel_rfl) (by kernel_rfl) (by kernel_rfl) (fun _ _ _ h => h) (Or.inl ⟨by rfl, fun w' h => by go_simp⟩) hH ?_
  try simp only [Act.put, List.setIfInBounds_toArray, List.set_cons_zero, List.set_cons_succ]
  refine wpAnyH_take (i := 13) (oi := { dst := some 16, op := Op.load 3 (Operand.tmp 15), type := 3, pos := "encode.go:108", after := #[{ on := 12, ground := Ground.data }], guard := none }) (v := .int .i64 a3) rfl (by kernel_rfl) (by kernel_rfl) (by kernel_rfl) (fun _ _ _ h => h) (Or.inl ⟨by rfl, fun w' h => by have q : w'.cell? ⟨w.heap.size, 5, none⟩ = some (.int .i64 a3) := Blk.cell h 5 _ rfl; go_simp⟩) hH ?_
  try simp only [Act.put, List.setIfInBounds_toArray, List.set_cons_zero, List.set_cons_succ]
  refine wpAnyH_take (i := 14) (oi := { dst := some 17, op := Op.fieldAddr 61 (Operand.tmp 1) 6, type := 0, pos := "encode.go:108", after := #[], guard := none }) (v := .pointer (some ⟨w.heap.size, 6, none⟩)) rfl (by kernel_rfl) (by kernel_rfl) (by kernel_rfl) (fun _ _ _ h => h) (Or.inl ⟨by rfl, fun w' h => by go_simp⟩) hH ?_
  try simp only [Act.put, List.setIfInBounds_toArray, List.set_cons_zero, List.set_cons_succ]
  refine wpAnyH_take (i := 15) (oi := { dst := some 18, op := Op.load 3 (Operand.tmp 17), type := 3, pos := "encode.go:108", after := #[{ on := 14, ground := Ground.data }], guard := none }) (v := .int .i64 a4) rfl (by kernel_rfl) (by kernel_rfl) (by kernel_rfl) (fun _ _ _ h => h) (Or.inl ⟨by rfl, fun w' h => by have q : w'.cell? ⟨w.heap.size, 6, none⟩ = some (.int .i64 a4) := Blk.cell h 6 _ rfl; go_simp⟩) hH ?_
  try simp only [Act.put, List.setIfInBounds_toArray, List.set_cons_zero, List.set_cons_succ]
  refine wpAnyH_take (i := 16) (oi := { dst := some 19, op := Op.fieldAddr 61 (Operand.tmp 1) 7, type := 0, pos := "encode.go:108", after := #[], guard := none }) (v := .pointer (some ⟨w.heap.size, 7, none⟩)) rfl (by kernel_rfl) (by kernel_rfl) (by kernel_rfl) (fun _ _ _ h => h) (Or.inl ⟨by rfl, fun w' h => by go_simp⟩) hH ?_
  try simp only [Act.put, List.setIfInBounds_toArray, List.set_cons_zero, List.set_cons_succ]
  refine wpAnyH_take (i := 17) (oi := { dst := some 20, op := Op.load 2 (Operand.tmp 19), type := 2, pos := "encode.go:108", after := #[{ on := 16, ground := Ground.data }], guard := none }) (v := .int .i64 a5) rfl (by kernel_rfl) (by kernel_rfl) (by kernel_rfl) (fun _ _ _ h => h) (Or.inl ⟨by rfl, fun w' h => by have q : w'.cell? ⟨w.heap.size, 7, none⟩ = some (.int .i64 a5) := Blk.cell h 7 _ rfl; go_simp⟩) hH ?_
  try simp only [Act.put, List.setIfInBounds_toArray, List.set_cons_zero, List.set_cons_succ]
  refine wpAnyH_take (i := 18) (oi := { dst := some 21, op := Op.fieldAddr 61 (Operand.tmp 1) 8, type := 0, pos := "encode.go:108", after := #[], guard := none }) (v := .pointer (some ⟨w.heap.size, 8, none⟩)) rfl (by kernel_rfl) (by kernel_rfl) (by kernel_rfl) (fun _ _ _ h => h) (Or.inl ⟨by rfl, fun w' h => by go_simp⟩) hH ?_
  try simp only [Act.put, List.setIfInBounds_toArray, List.set_cons_zero, List.set_cons_succ]
  refine wpAnyH_take (i := 19) (oi := { dst := some 22, op := Op.load 2 (Operand.tmp 21), type := 2, pos := "encode.go:108", after := #[{ on := 18, ground := Ground.data }], guard := none }) (v := .int .i64 a6) rfl (by kernel_rfl) (by kernel_rfl) (by kernel_rfl) (fun _ _ _ h => h) (Or.inl ⟨by rfl, fun w' h => by have q : w'.cell? ⟨w.heap.size, 8, none⟩ = some (.int .i64 a6) := Blk.cell h 8 _ rfl; go_simp⟩) hH ?_
  try simp only [Act.put, List.setIfInBounds_toArray, List.set_cons_zero, List.set_cons_succ]
  refine wpAnyH_take (i := 20) (oi := { dst := some 23, op := Op.fieldAddr 61 (Operand.tmp 1) 9, type := 0, pos := "encode.go:108", after := #[], guard := none }) (v := .pointer (some ⟨w.heap.size, 9, none⟩)) rfl (by kernel_rfl) (by kernel_rfl) (by kernel_rfl) (fun _ _ _ h => h) (Or.inl ⟨by rfl, fun w' h => by go_simp⟩) hH ?_
  try simp only [Act.put, List.setIfInBounds_toArray, List.set_cons_zero, List.set_cons_succ]
  refine wpAnyH_take (i := 21) (oi := { dst := some 24, op := Op.load 3 (Operand.tmp 23), type := 3, pos := "encode.go:108", after := #[{ on := 20, ground := Ground.data }], guard := none }) (v := .int .i64 a7) rfl (by kernel_rfl) (by kernel_rfl) (by kernel_rfl) (fun _ _ _ h => h) (Or.inl ⟨by rfl, fun w' h => by have q : w'.cell? ⟨w.heap.size, 9, none⟩ = some (.int .i64 a7) := Blk.cell h 9 _ rfl; go_simp⟩) hH ?_
  try simp only [Act.put, List.setIfInBounds_toArray, List.set_cons_zero, List.set_cons_succ]
  refine wpAnyH_take (i := 22) (oi := { dst := some 25, op := Op.fieldAddr 61 (Operand.tmp 1) 10, type := 0, pos := "encode.go:108", after := #[], guard := none }) (v := .pointer (some ⟨w.heap.size, 10, none⟩)) rfl (by kernel_rfl) (by kernel_rfl) (by kernel_rfl) (fun _ _ _ h => h) (Or.inl ⟨by rfl, fun w' h => by go_simp⟩) hH ?_
  try simp only [Act.put, List.setIfInBounds_toArray, List.set_cons_zero, List.set_cons_succ]
  refine wpAnyH_take (i := 23) (oi := { dst := some 26, op := Op.load 3 (Operand.tmp 25), type := 3, pos := "encode.go:108", after := #[{ on := 22, ground := Ground.data }], guard := none }) (v := .int .i64 a8) rfl (by kernel_rfl) (by kernel_rfl) (by kernel_rfl) (fun _ _ _ h => h) (Or.inl ⟨by rfl, fun w' h => by have q : w'.cell? ⟨w.heap.size, 10, none⟩ = some (.int .i64 a8) := Blk.cell h 10 _ rfl; go_simp⟩) hH ?_
  try simp only [Act.put, List.setIfInBounds_toArray, List.set_cons_zero, List.set_cons_succ]
  refine wpAnyH_take (i := 24) (oi := { dst := some 27, op := Op.fieldAddr 61 (Operand.tmp 1) 11, type := 0, pos := "encode.go:108", after := #[], guard := none }) (v := .pointer (some ⟨w.heap.size, 11, none⟩)) rfl (by kernel_rfl) (by kernel_rfl) (by kernel_rfl) (fun _ _ _ h => h) (Or.inl ⟨by rfl, fun w' h => by go_simp⟩) hH ?_
  try simp only [Act.put, List.setIfInBounds_toArray, List.set_cons_zero, List.set_cons_succ]
  refine wpAnyH_take (i := 25) (oi := { dst := some 28, op := Op.load 3 (Operand.tmp 27), type := 3, pos := "encode.go:108", after := #[{ on := 24, ground := Ground.data }], guard := none }) (v := .int .i64 a9) rfl (by kernel_rfl) (by kernel_rfl) (by kernel_rfl) (fun _ _ _ h => h) (Or.inl ⟨by rfl, fun w' h => by have q : w'.cell? ⟨w.heap.size, 11, none⟩ = some (.int .i64 a9) := Blk.cell h 11 _ rfl; go_simp⟩) hH ?_
  try simp only [Act.put, List.setIfInBounds_toArray, List.set_cons_zero, List.set_cons_succ]
  refine wpAnyH_take (i := 26) (oi := { dst := some 29, op := Op.fieldAddr 61 (Operand.tmp 1) 12, type := 0, pos := "encode.go:108", after := #[], guard := none }) (v := .pointer (some ⟨w.heap.size, 12, none⟩)) rfl (by kernel_rfl) (by kernel_rfl) (by kernel_rfl) (fun _ _ _ h => h) (Or.inl ⟨by rfl, fun w' h => by go_simp⟩) hH ?_
  try simp only [Act.put, List.setIfInBounds_toArray, List.set_cons_zero, List.set_cons_succ]
  refine wpAnyH_take (i := 27) (oi := { dst := some 30, op := Op.load 3 (Operand.tmp 29), type := 3, pos := "encode.go:108", after := #[{ on := 26, ground := Ground.data }], guard := none }) (v := .int .i64 a10) rfl (by kernel_rfl) (by kernel_rfl) (by kernel_rfl) (fun _ _ _ h => h) (Or.inl ⟨by rfl, fun w' h => by have q : w'.cell? ⟨w.heap.size, 12, none⟩ = some (.int .i64 a10) := Blk.cell h 12 _ rfl; go_simp⟩) hH ?_
  try simp only [Act.put, List.setIfInBounds_toArray, List.set_cons_zero, List.set_cons_succ]
  refine wpAnyH_take (i := 28) (oi := { dst := some 31, op := Op.fieldAddr 61 (Operand.tmp 1) 13, type := 0, pos := "encode.go:108", after := #[], guard := none }) (v := .pointer (some ⟨w.heap.size, 13, none⟩)) rfl (by kernel_rfl) (by kernel_rfl) (by kernel_rfl) (fun _ _ _ h => h) (Or.inl ⟨by rfl, fun w' h => by go_simp⟩) hH ?_
  try simp only [Act.put, List.setIfInBounds_toArray, List.set_cons_zero, List.set_cons_succ]
  refine wpAnyH_take (i := 29) (oi := { dst := some 32, op := Op.load 2 (Operand.tmp 31), type := 2, pos := "encode.go:108", after := #[{ on := 28, ground := Ground.data }], guard := none }) (v := .int .i64 a11) rfl (by kernel_rfl) (by kernel_rfl) (by kernel_rfl) (fun _ _ _ h => h) (Or.inl ⟨by rfl, fun w' h => by have q : w'.cell? ⟨w.heap.size, 13, none⟩ = some (.int .i64 a11) := Blk.cell h 13 _ rfl; go_simp⟩) hH ?_
  try simp only [Act.put, List.setIfInBounds_toArray, List.set_cons_zero, List.set_cons_succ]
  refine wpAnyH_take (i := 30) (oi := { dst := some 33, op := Op.fieldAddr 61 (Operand.tmp 1) 14, type := 0, pos := "encode.go:108", after := #[], guard := none }) (v := .pointer (some ⟨w.heap.size, 14, none⟩)) rfl (by kernel_rfl) (by kernel_rfl) (by kernel_rfl) (fun _ _ _ h => h) (Or.inl ⟨by rfl, fun w' h => by go_simp⟩) hH ?_
  try simp only [Act.put, List.setIfInBounds_toArray, List.set_cons_zero, List.set_cons_succ]
  refine wpAnyH_take (i := 31) (oi := { dst := some 34, op := Op.load 2 (Operand.tmp 33), type := 2, pos := "encode.go:108", after := #[{ on := 30, ground := Ground.data }], guard := none }) (v := .int .i64 a12) rfl (by kernel_rfl) (by kernel_rfl) (by kernel_rfl) (fun _ _ _ h => h) (Or.inl ⟨by rfl, fun w' h => by have q : w'.cell? ⟨w.heap.size, 14, none⟩ = some (.int .i64 a12) := Blk.cell h 14 _ rfl; go_simp⟩) hH ?_
  try simp only [Act.put, List.setIfInBounds_toArray, List.set_cons_zero, List.set_cons_succ]
  clear hH
  refine anyH_name fun G hG => ?_
  have Q3_0 : ∀ (W : World) (sa0 : Option Addr) (sn0 sc0 : Nat) (sa1 : Option Addr) (sn1 sc1 : Nat) (sa2 : Option Addr) (sn2 sc2 : Nat) (F0 : Nat), Hid (Blk (w.heap.size) 61 ([.int .i64 s, .bool z, .int .i64 a0, .int .i64 a1, .int .i64 a2, .int .i64 a3, .int .i64 a4, .int .i64 a5, .int .i64 a6, .int .i64 a7, .int .i64 a8, .int .i64 a9, .int .i64 a10, .int .i64 a11, .int .i64 a12]) W) → Hid (Below w.heap.size w W) → Hid (RdB W (.slice sa0 sn0 sc0) (r0)) → Hid (RdB W (.slice sa1 sn1 sc1) (r1)) → Hid (RdB W (.slice sa2 sn2 sc2) (r2)) → Hid (Blk F0 2 [.int .i64 a0, .int .i64 a1, .int .i64 a2, .int .i64 a3, .int .i64 a4, .int .i64 a5, .int .i64 a6, .int .i64 a7, .int .i64 a8, .int .i64 a9, .int .i64 a10, .int .i64 a11, .int .i64 a12] W) → G 3 #[true, true, true, true, true, true, true, true, true, true, true, true, true, true, true, true, true, true, true, true, true, true, true, true, true, true, true, true, true, true, true, true, true, true, false, false, false] ⟨#[.agg #[.int .i64 s, .bool z, .int .i64 a0, .int .i64 a1, .int .i64 a2, .int .i64 a3, .int .i64 a4, .int .i64 a5, .int .i64 a6, .int .i64 a7, .int .i64 a8, .int .i64 a9, .int .i64 a10, .int .i64 a11, .int .i64 a12], .pointer (some ⟨w.heap.size, 0, none⟩), .slice none 0 0, .pointer (some ⟨w.heap.size, 0, none⟩), .int .i64 s, .slice sa0 sn0 sc0, .pointer (some ⟨w.heap.size, 1, none⟩), .bool z, .slice sa1 sn1 sc1, .pointer (some ⟨w.heap.size, 2, none⟩), .int .i64 a0, .pointer (some ⟨w.heap.size, 3, none⟩), .int .i64 a1, .pointer (some ⟨w.heap.size, 4, none⟩), .int .i64 a2, .pointer (some ⟨w.heap.size, 5, none⟩), .int .i64 a3, .pointer (some ⟨w.heap.size, 6, none⟩), .int .i64 a4, .pointer (some ⟨w.heap.size, 7, none⟩), .int .i64 a5, .pointer (some ⟨w.heap.size, 8, none⟩), .int .i64 a6, .pointer (some ⟨w.heap.size, 9, none⟩), .int .i64 a7, .pointer (some ⟨w.heap.size, 10, none⟩), .int .i64 a8, .pointer (some ⟨w.heap.size, 11, none⟩), .int .i64 a9, .pointer (some ⟨w.heap.size, 12, none⟩), .int .i64 a10, .pointer (some ⟨w.heap.size, 13, none⟩), .int .i64 a11, .pointer (some ⟨w.heap.size, 14, none⟩), .int .i64 a12, .slice (some ⟨F0, 0, none⟩) 13 13, .slice sa2 sn2 sc2, undef, undef], []⟩ W := by
    intro W sa0 sn0 sc0 sa1 sn1 sc1 sa2 sn2 sc2 F0 BL BW D0 D1 D2 G0
    refine hG.1 _ _ _ _ ?_
    refine wpAnyH_ready (rs := [34]) (by kernel_rfl) (by simp) ?_
    refine AllReadyH.cons (o := { dst := some 37, op := Op.buildSlice 126 3 #[(0, Operand.tmp 5), (1, Operand.tmp 8), (2, Operand.tmp 36)], type := 126, pos := "encode.go:108", after := #[{ on := 2, ground := Ground.data }, { on := 5, ground := Ground.data }, { on := 33, ground := Ground.data }], guard := none }) rfl (fun K hK => ?_) AllReadyH.nil
    go_simp
    refine hK.out _ _ (BL.out.below (below_alloc _ _)) (fun _ => ?_)
    try simp only [List.setIfInBounds_toArray, List.set_cons_zero, List.set_cons_succ]
    refine wpAnyH_ready (rs := [35]) (by kernel_rfl) (by simp) ?_
    refine AllReadyH.cons (o := { dst := some 38, op := Op.call { callee := Callee.value (Operand.func 34), args := #[Operand.tmp 37], argTypes := #[126] }, type := 33, pos := "encode.go:108", after := #[{ on := 34, ground := Ground.data }, { on := 33, ground := Ground.chain }], guard := none }) rfl (fun K hK => ?_) AllReadyH.nil
    go_simp
    refine (CN.out W sa0 sn0 sc0 sa1 sn1 sc1 sa2 sn2 sc2 D0.out D1.out D2.out).mono ?_
    rintro e W2 ⟨v, rfl, rv, bX⟩
    have R9 : Hid (RowB 5 w.heap.size W2 v RR) := RowV.mono rv BW.out.size
    have B9 : Hid (Below w.heap.size w W2) := below_trans BW.out bX
    refine hK.out _ _ (BL.out.below bX) (fun hH => ?_)
    try simp only [List.setIfInBounds_toArray, List.set_cons_zero, List.set_cons_succ]
    refine wpAnyH_take (i := 36) (oi := { dst := some 2, op := Op.assign (Operand.tmp 38), type := 33, pos := "encode.go:108", after := #[{ on := 35, ground := Ground.data }, { on := 35, ground := Ground.chain }, { on := 0, ground := Ground.phase }, { on := 1, ground := Ground.phase }, { on := 2, ground := Ground.phase }, { on := 3, ground := Ground.phase }, { on := 4, ground := Ground.phase }, { on := 5, ground := Ground.phase }, { on := 6, ground := Ground.phase }, { on := 7, ground := Ground.phase }, { on := 8, ground := Ground.phase }, { on := 9, ground := Ground.phase }, { on := 10, ground := Ground.phase }, { on := 11, ground := Ground.phase }, { on := 12, ground := Ground.phase }, { on := 13, ground := Ground.phase }, { on := 14, ground := Ground.phase }, { on := 15, ground := Ground.phase }, { on := 16, ground := Ground.phase }, { on := 17, ground := Ground.phase }, { on := 18, ground := Ground.phase }, { on := 19, ground := Ground.phase }, { on := 20, ground := Ground.phase }, { on := 21, ground := Ground.phase }, { on := 22, ground := Ground.phase }, { on := 23, ground := Ground.phase }, { on := 24, ground := Ground.phase }, { on := 25, ground := Ground.phase }, { on := 26, ground := Ground.phase }, { on := 27, ground := Ground.phase }, { on := 28, ground := Ground.phase }, { on := 29, ground := Ground.phase }, { on := 30, ground := Ground.phase }, { on := 31, ground := Ground.phase }, { on := 32, ground := Ground.phase }, { on := 33, ground := Ground.phase }, { on := 34, ground := Ground.phase }, { on := 35, ground := Ground.phase }], guard := none }) (v := v) rfl (by kernel_rfl) (by kernel_rfl) (by kernel_rfl) (fun _ _ _ h => h) (Or.inl ⟨by rfl, fun w' h => by go_simp⟩) hH ?_
    try simp only [Act.put, List.setIfInBounds_toArray, List.set_cons_zero, List.set_cons_succ]
    refine wpAnyH_done (by kernel_rfl) ?_ _
    clear hH hK rv bX
    go_wp2_with fail
    go_ret
    exact ⟨_, rfl, R9.out, B9.out⟩
  have Q2_0 : ∀ (W : World) (sa0 : Option Addr) (sn0 sc0 : Nat) (sa1 : Option Addr) (sn1 sc1 : Nat) (F0 : Nat), Hid (Blk (w.heap.size) 61 ([.int .i64 s, .bool z, .int .i64 a0, .int .i64 a1, .int .i64 a2, .int .i64 a3, .int .i64 a4, .int .i64 a5, .int .i64 a6, .int .i64 a7, .int .i64 a8, .int .i64 a9, .int .i64 a10, .int .i64 a11, .int .i64 a12]) W) → Hid (Below w.heap.size w W) → Hid (RdB W (.slice sa0 sn0 sc0) (r0)) → Hid (RdB W (.slice sa1 sn1 sc1) (r1)) → Hid (Blk F0 2 [.int .i64 a0, .int .i64 a1, .int .i64 a2, .int .i64 a3, .int .i64 a4, .int .i64 a5, .int .i64 a6, .int .i64 a7, .int .i64 a8, .int .i64 a9, .int .i64 a10, .int .i64 a11, .int .i64 a12] W) → G 4 #[true, true, true, true, true, true, true, true, true, true, true, true, true, true, true, true, true, true, true, true, true, true, true, true, true, true, true, true, true, true, true, true, true, false, false, false, false] ⟨#[.agg #[.int .i64 s, .bool z, .int .i64 a0, .int .i64 a1, .int .i64 a2, .int .i64 a3, .int .i64 a4, .int .i64 a5, .int .i64 a6, .int .i64 a7, .int .i64 a8, .int .i64 a9, .int .i64 a10, .int .i64 a11, .int .i64 a12], .pointer (some ⟨w.heap.size, 0, none⟩), .slice none 0 0, .pointer (some ⟨w.heap.size, 0, none⟩), .int .i64 s, .slice sa0 sn0 sc0, .pointer (some ⟨w.heap.size, 1, none⟩), .bool z, .slice sa1 sn1 sc1, .pointer (some ⟨w.heap.size, 2, none⟩), .int .i64 a0, .pointer (some ⟨w.heap.size, 3, none⟩), .int .i64 a1, .pointer (some ⟨w.heap.size, 4, none⟩), .int .i64 a2, .pointer (some ⟨w.heap.size, 5, none⟩), .int .i64 a3, .pointer (some ⟨w.heap.size, 6, none⟩), .int .i64 a4, .pointer (some ⟨w.heap.size, 7, none⟩), .int .i64 a5, .pointer (some ⟨w.heap.size, 8, none⟩), .int .i64 a6, .pointer (some ⟨w.heap.size, 9, none⟩), .int .i64 a7, .pointer (some ⟨w.heap.size, 10, none⟩), .int .i64 a8, .pointer (some ⟨w.heap.size, 11, none⟩), .int .i64 a9, .pointer (some ⟨w.heap.size, 12, none⟩), .int .i64 a10, .pointer (some ⟨w.heap.size, 13, none⟩), .int .i64 a11, .pointer (some ⟨w.heap.size, 14, none⟩), .int .i64 a12, .slice (some ⟨F0, 0, none⟩) 13 13, undef, undef, undef], []⟩ W := by
    intro W sa0 sn0 sc0 sa1 sn1 sc1 F0 BL BW D0 D1 G0
    refine hG.1 _ _ _ _ ?_
    refine wpAnyH_ready (rs := [33]) (by kernel_rfl) (by simp) ?_
    refine AllReadyH.cons (o := { dst := some 36, op := Op.call { callee := Callee.value (Operand.func 39), args := #[Operand.tmp 35], argTypes := #[110] }, type := 33, pos := "encode.go:111", after := #[{ on := 32, ground := Ground.data }, { on := 5, ground := Ground.chain }], guard := none }) rfl (fun K hK => ?_) AllReadyH.nil
    go_simp
    refine (C2.out W F0 G0.out).mono ?_
    rintro e W2 ⟨v, rfl, rv, bX⟩
    obtain ⟨sa2, sc2, ev, -, -⟩ := (RowV.rd rv).len
    generalize ((r2).map bv).length = sn2 at ev
    subst ev
    have BL' : Hid (Blk (w.heap.size) 61 ([.int .i64 s, .bool z, .int .i64 a0, .int .i64 a1, .int .i64 a2, .int .i64 a3, .int .i64 a4, .int .i64 a5, .int .i64 a6, .int .i64 a7, .int .i64 a8, .int .i64 a9, .int .i64 a10, .int .i64 a11, .int .i64 a12]) W2) := BL.out.below bX
    have BW' : Hid (Below w.heap.size w W2) := below_trans BW.out bX
    have D0' : Hid (RdB W2 (.slice sa0 sn0 sc0) (r0)) := D0.out.later bX
    have D1' : Hid (RdB W2 (.slice sa1 sn1 sc1) (r1)) := D1.out.later bX
    have D2' : Hid (RdB W2 (.slice sa2 sn2 sc2) (r2)) := RowV.rd rv
    have G0' : Hid (Blk F0 2 [.int .i64 a0, .int .i64 a1, .int .i64 a2, .int .i64 a3, .int .i64 a4, .int .i64 a5, .int .i64 a6, .int .i64 a7, .int .i64 a8, .int .i64 a9, .int .i64 a10, .int .i64 a11, .int .i64 a12] W2) := G0.out.below bX
    refine hK.out _ _ BL'.out (fun _ => ?_)
    try simp only [List.setIfInBounds_toArray, List.set_cons_zero, List.set_cons_succ]
    exact hG.2 _ _ _ _ (Q3_0 W2 _ _ _ _ _ _ _ _ _ _ BL' BW' D0' D1' D2' G0')
  have Q2_ : ∀ (W : World) (sa0 : Option Addr) (sn0 sc0 : Nat) (sa1 : Option Addr) (sn1 sc1 : Nat), Hid (Blk (w.heap.size) 61 ([.int .i64 s, .bool z, .int .i64 a0, .int .i64 a1, .int .i64 a2, .int .i64 a3, .int .i64 a4, .int .i64 a5, .int .i64 a6, .int .i64 a7, .int .i64 a8, .int .i64 a9, .int .i64 a10, .int .i64 a11, .int .i64 a12]) W) → Hid (Below w.heap.size w W) → Hid (RdB W (.slice sa0 sn0 sc0) (r0)) → Hid (RdB W (.slice sa1 sn1 sc1) (r1)) → G 5 #[true, true, true, true, true, true, true, true, true, true, true, true, true, true, true, true, true, true, true, true, true, true, true, true, true, true, true, true, true, true, true, true, false, false, false, false, false] ⟨#[.agg #[.int .i64 s, .bool z, .int .i64 a0, .int .i64 a1, .int .i64 a2, .int .i64 a3, .int .i64 a4, .int .i64 a5, .int .i64 a6, .int .i64 a7, .int .i64 a8, .int .i64 a9, .int .i64 a10, .int .i64 a11, .int .i64 a12], .pointer (some ⟨w.heap.size, 0, none⟩), .slice none 0 0, .pointer (some ⟨w.heap.size, 0, none⟩), .int .i64 s, .slice sa0 sn0 sc0, .pointer (some ⟨w.heap.size, 1, none⟩), .bool z, .slice sa1 sn1 sc1, .pointer (some ⟨w.heap.size, 2, none⟩), .int .i64 a0, .pointer (some ⟨w.heap.size, 3, none⟩), .int .i64 a1, .pointer (some ⟨w.heap.size, 4, none⟩), .int .i64 a2, .pointer (some ⟨w.heap.size, 5, none⟩), .int .i64 a3, .pointer (some ⟨w.heap.size, 6, none⟩), .int .i64 a4, .pointer (some ⟨w.heap.size, 7, none⟩), .int .i64 a5, .pointer (some ⟨w.heap.size, 8, none⟩), .int .i64 a6, .pointer (some ⟨w.heap.size, 9, none⟩), .int .i64 a7, .pointer (some ⟨w.heap.size, 10, none⟩), .int .i64 a8, .pointer (some ⟨w.heap.size, 11, none⟩), .int .i64 a9, .pointer (some ⟨w.heap.size, 12, none⟩), .int .i64 a10, .pointer (some ⟨w.heap.size, 13, none⟩), .int .i64 a11, .pointer (some ⟨w.heap.size, 14, none⟩), .int .i64 a12, undef, undef, undef, undef], []⟩ W := by
    intro W sa0 sn0 sc0 sa1 sn1 sc1 BL BW D0 D1
    refine hG.1 _ _ _ _ ?_
    refine wpAnyH_ready (rs := [32]) (by kernel_rfl) (by simp) ?_
    refine AllReadyH.cons (o := { dst := some 35, op := Op.buildSlice 110 13 #[(0, Operand.tmp 10), (1, Operand.tmp 12), (2, Operand.tmp 14), (3, Operand.tmp 16), (4, Operand.tmp 18), (5, Operand.tmp 20), (6, Operand.tmp 22), (7, Operand.tmp 24), (8, Operand.tmp 26), (9, Operand.tmp 28), (10, Operand.tmp 30), (11, Operand.tmp 32), (12, Operand.tmp 34)], type := 110, pos := "encode.go:108", after := #[{ on := 7, ground := Ground.data }, { on := 9, ground := Ground.data }, { on := 11, ground := Ground.data }, { on := 13, ground := Ground.data }, { on := 15, ground := Ground.data }, { on := 17, ground := Ground.data }, { on := 19, ground := Ground.data }, { on := 21, ground := Ground.data }, { on := 23, ground := Ground.data }, { on := 25, ground := Ground.data }, { on := 27, ground := Ground.data }, { on := 29, ground := Ground.data }, { on := 31, ground := Ground.data }], guard := none }) rfl (fun K hK => ?_) AllReadyH.nil
    go_simp
    have bX := below_alloc W (.cells #[.int .i64 a0, .int .i64 a1, .int .i64 a2, .int .i64 a3, .int .i64 a4, .int .i64 a5, .int .i64 a6, .int .i64 a7, .int .i64 a8, .int .i64 a9, .int .i64 a10, .int .i64 a11, .int .i64 a12] 2)
    have G0' : Hid (Blk W.heap.size 2 [.int .i64 a0, .int .i64 a1, .int .i64 a2, .int .i64 a3, .int .i64 a4, .int .i64 a5, .int .i64 a6, .int .i64 a7, .int .i64 a8, .int .i64 a9, .int .i64 a10, .int .i64 a11, .int .i64 a12] (W.alloc (.cells #[.int .i64 a0, .int .i64 a1, .int .i64 a2, .int .i64 a3, .int .i64 a4, .int .i64 a5, .int .i64 a6, .int .i64 a7, .int .i64 a8, .int .i64 a9, .int .i64 a10, .int .i64 a11, .int .i64 a12] 2))) := Blk.new _ _ _
    have BL' : Hid (Blk (w.heap.size) 61 ([.int .i64 s, .bool z, .int .i64 a0, .int .i64 a1, .int .i64 a2, .int .i64 a3, .int .i64 a4, .int .i64 a5, .int .i64 a6, .int .i64 a7, .int .i64 a8, .int .i64 a9, .int .i64 a10, .int .i64 a11, .int .i64 a12]) (W.alloc (.cells #[.int .i64 a0, .int .i64 a1, .int .i64 a2, .int .i64 a3, .int .i64 a4, .int .i64 a5, .int .i64 a6, .int .i64 a7, .int .i64 a8, .int .i64 a9, .int .i64 a10, .int .i64 a11, .int .i64 a12] 2))) := BL.out.below bX
    have BW' : Hid (Below w.heap.size w (W.alloc (.cells #[.int .i64 a0, .int .i64 a1, .int .i64 a2, .int .i64 a3, .int .i64 a4, .int .i64 a5, .int .i64 a6, .int .i64 a7, .int .i64 a8, .int .i64 a9, .int .i64 a10, .int .i64 a11, .int .i64 a12] 2))) := below_trans BW.out bX
    have D0' : Hid (RdB (W.alloc (.cells #[.int .i64 a0, .int .i64 a1, .int .i64 a2, .int .i64 a3, .int .i64 a4, .int .i64 a5, .int .i64 a6, .int .i64 a7, .int .i64 a8, .int .i64 a9, .int .i64 a10, .int .i64 a11, .int .i64 a12] 2)) (.slice sa0 sn0 sc0) (r0)) := D0.out.later bX
    have D1' : Hid (RdB (W.alloc (.cells #[.int .i64 a0, .int .i64 a1, .int .i64 a2, .int .i64 a3, .int .i64 a4, .int .i64 a5, .int .i64 a6, .int .i64 a7, .int .i64 a8, .int .i64 a9, .int .i64 a10, .int .i64 a11, .int .i64 a12] 2)) (.slice sa1 sn1 sc1) (r1)) := D1.out.later bX
    refine hK.out _ _ BL'.out (fun _ => ?_)
    try simp only [List.setIfInBounds_toArray, List.set_cons_zero, List.set_cons_succ]
    exact hG.2 _ _ _ _ (Q2_0 _ _ _ _ _ _ _ _ BL' BW' D0' D1' G0')
  have Q1_0 : ∀ (W : World) (sa0 : Option Addr) (sn0 sc0 : Nat) (F0 : Nat), Hid (Blk (w.heap.size) 61 ([.int .i64 s, .bool z, .int .i64 a0, .int .i64 a1, .int .i64 a2, .int .i64 a3, .int .i64 a4, .int .i64 a5, .int .i64 a6, .int .i64 a7, .int .i64 a8, .int .i64 a9, .int .i64 a10, .int .i64 a11, .int .i64 a12]) W) → Hid (Below w.heap.size w W) → Hid (RdB W (.slice sa0 sn0 sc0) (r0)) → Hid (Blk F0 2 [.int .i64 a0, .int .i64 a1, .int .i64 a2, .int .i64 a3, .int .i64 a4, .int .i64 a5, .int .i64 a6, .int .i64 a7, .int .i64 a8, .int .i64 a9, .int .i64 a10, .int .i64 a11, .int .i64 a12] W) → G 5 #[true, true, true, true, true, false, true, true, true, true, true, true, true, true, true, true, true, true, true, true, true, true, true, true, true, true, true, true, true, true, true, true, true, false, false, false, false] ⟨#[.agg #[.int .i64 s, .bool z, .int .i64 a0, .int .i64 a1, .int .i64 a2, .int .i64 a3, .int .i64 a4, .int .i64 a5, .int .i64 a6, .int .i64 a7, .int .i64 a8, .int .i64 a9, .int .i64 a10, .int .i64 a11, .int .i64 a12], .pointer (some ⟨w.heap.size, 0, none⟩), .slice none 0 0, .pointer (some ⟨w.heap.size, 0, none⟩), .int .i64 s, .slice sa0 sn0 sc0, .pointer (some ⟨w.heap.size, 1, none⟩), .bool z, undef, .pointer (some ⟨w.heap.size, 2, none⟩), .int .i64 a0, .pointer (some ⟨w.heap.size, 3, none⟩), .int .i64 a1, .pointer (some ⟨w.heap.size, 4, none⟩), .int .i64 a2, .pointer (some ⟨w.heap.size, 5, none⟩), .int .i64 a3, .pointer (some ⟨w.heap.size, 6, none⟩), .int .i64 a4, .pointer (some ⟨w.heap.size, 7, none⟩), .int .i64 a5, .pointer (some ⟨w.heap.size, 8, none⟩), .int .i64 a6, .pointer (some ⟨w.heap.size, 9, none⟩), .int .i64 a7, .pointer (some ⟨w.heap.size, 10, none⟩), .int .i64 a8, .pointer (some ⟨w.heap.size, 11, none⟩), .int .i64 a9, .pointer (some ⟨w.heap.size, 12, none⟩), .int .i64 a10, .pointer (some ⟨w.heap.size, 13, none⟩), .int .i64 a11, .pointer (some ⟨w.heap.size, 14, none⟩), .int .i64 a12, .slice (some ⟨F0, 0, none⟩) 13 13, undef, undef, undef], []⟩ W := by
    intro W sa0 sn0 sc0 F0 BL BW D0 G0
    refine hG.1 _ _ _ _ ?_
    refine wpAnyH_ready (rs := [5]) (by kernel_rfl) (by simp) ?_
    refine AllReadyH.cons (o := { dst := some 8, op := Op.call { callee := Callee.value (Operand.func 60), args := #[Operand.tmp 7], argTypes := #[4] }, type := 33, pos := "encode.go:110", after := #[{ on := 4, ground := Ground.data }, { on := 2, ground := Ground.chain }], guard := none }) rfl (fun K hK => ?_) AllReadyH.nil
    go_simp
    refine (C1.out W).mono ?_
    rintro e W2 ⟨v, rfl, rv, bX⟩
    obtain ⟨sa1, sc1, ev, -, -⟩ := (RowV.rd rv).len
    generalize ((r1).map bv).length = sn1 at ev
    subst ev
    have BL' : Hid (Blk (w.heap.size) 61 ([.int .i64 s, .bool z, .int .i64 a0, .int .i64 a1, .int .i64 a2, .int .i64 a3, .int .i64 a4, .int .i64 a5, .int .i64 a6, .int .i64 a7, .int .i64 a8, .int .i64 a9, .int .i64 a10, .int .i64 a11, .int .i64 a12]) W2) := BL.out.below bX
    have BW' : Hid (Below w.heap.size w W2) := below_trans BW.out bX
    have D0' : Hid (RdB W2 (.slice sa0 sn0 sc0) (r0)) := D0.out.later bX
    have D1' : Hid (RdB W2 (.slice sa1 sn1 sc1) (r1)) := RowV.rd rv
    have G0' : Hid (Blk F0 2 [.int .i64 a0, .int .i64 a1, .int .i64 a2, .int .i64 a3, .int .i64 a4, .int .i64 a5, .int .i64 a6, .int .i64 a7, .int .i64 a8, .int .i64 a9, .int .i64 a10, .int .i64 a11, .int .i64 a12] W2) := G0.out.below bX
    refine hK.out _ _ BL'.out (fun _ => ?_)
    try simp only [List.setIfInBounds_toArray, List.set_cons_zero, List.set_cons_succ]
    exact hG.2 _ _ _ _ (Q2_0 W2 _ _ _ _ _ _ _ BL' BW' D0' D1' G0')
  have Q1_ : ∀ (W : World) (sa0 : Option Addr) (sn0 sc0 : Nat), Hid (Blk (w.heap.size) 61 ([.int .i64 s, .bool z, .int .i64 a0, .int .i64 a1, .int .i64 a2, .int .i64 a3, .int .i64 a4, .int .i64 a5, .int .i64 a6, .int .i64 a7, .int .i64 a8, .int .i64 a9, .int .i64 a10, .int .i64 a11, .int .i64 a12]) W) → Hid (Below w.heap.size w W) → Hid (RdB W (.slice sa0 sn0 sc0) (r0)) → G 6 #[true, true, true, true, true, false, true, true, true, true, true, true, true, true, true, true, true, true, true, true, true, true, true, true, true, true, true, true, true, true, true, true, false, false, false, false, false] ⟨#[.agg #[.int .i64 s, .bool z, .int .i64 a0, .int .i64 a1, .int .i64 a2, .int .i64 a3, .int .i64 a4, .int .i64 a5, .int .i64 a6, .int .i64 a7, .int .i64 a8, .int .i64 a9, .int .i64 a10, .int .i64 a11, .int .i64 a12], .pointer (some ⟨w.heap.size, 0, none⟩), .slice none 0 0, .pointer (some ⟨w.heap.size, 0, none⟩), .int .i64 s, .slice sa0 sn0 sc0, .pointer (some ⟨w.heap.size, 1, none⟩), .bool z, undef, .pointer (some ⟨w.heap.size, 2, none⟩), .int .i64 a0, .pointer (some ⟨w.heap.size, 3, none⟩), .int .i64 a1, .pointer (some ⟨w.heap.size, 4, none⟩), .int .i64 a2, .pointer (some ⟨w.heap.size, 5, none⟩), .int .i64 a3, .pointer (some ⟨w.heap.size, 6, none⟩), .int .i64 a4, .pointer (some ⟨w.heap.size, 7, none⟩), .int .i64 a5, .pointer (some ⟨w.heap.size, 8, none⟩), .int .i64 a6, .pointer (some ⟨w.heap.size, 9, none⟩), .int .i64 a7, .pointer (some ⟨w.heap.size, 10, none⟩), .int .i64 a8, .pointer (some ⟨w.heap.size, 11, none⟩), .int .i64 a9, .pointer (some ⟨w.heap.size, 12, none⟩), .int .i64 a10, .pointer (some ⟨w.heap.size, 13, none⟩), .int .i64 a11, .pointer (some ⟨w.heap.size, 14, none⟩), .int .i64 a12, undef, undef, undef, undef], []⟩ W := by
    intro W sa0 sn0 sc0 BL BW D0
    refine hG.1 _ _ _ _ ?_
    refine wpAnyH_ready (rs := [5, 32]) (by kernel_rfl) (by simp) ?_
    refine AllReadyH.cons (o := { dst := some 8, op := Op.call { callee := Callee.value (Operand.func 60), args := #[Operand.tmp 7], argTypes := #[4] }, type := 33, pos := "encode.go:110", after := #[{ on := 4, ground := Ground.data }, { on := 2, ground := Ground.chain }], guard := none }) rfl (fun K hK => ?_) (AllReadyH.cons (o := { dst := some 35, op := Op.buildSlice 110 13 #[(0, Operand.tmp 10), (1, Operand.tmp 12), (2, Operand.tmp 14), (3, Operand.tmp 16), (4, Operand.tmp 18), (5, Operand.tmp 20), (6, Operand.tmp 22), (7, Operand.tmp 24), (8, Operand.tmp 26), (9, Operand.tmp 28), (10, Operand.tmp 30), (11, Operand.tmp 32), (12, Operand.tmp 34)], type := 110, pos := "encode.go:108", after := #[{ on := 7, ground := Ground.data }, { on := 9, ground := Ground.data }, { on := 11, ground := Ground.data }, { on := 13, ground := Ground.data }, { on := 15, ground := Ground.data }, { on := 17, ground := Ground.data }, { on := 19, ground := Ground.data }, { on := 21, ground := Ground.data }, { on := 23, ground := Ground.data }, { on := 25, ground := Ground.data }, { on := 27, ground := Ground.data }, { on := 29, ground := Ground.data }, { on := 31, ground := Ground.data }], guard := none }) rfl (fun K hK => ?_) AllReadyH.nil)
    · go_simp
      refine (C1.out W).mono ?_
      rintro e W2 ⟨v, rfl, rv, bX⟩
      obtain ⟨sa1, sc1, ev, -, -⟩ := (RowV.rd rv).len
      generalize ((r1).map bv).length = sn1 at ev
      subst ev
      have BL' : Hid (Blk (w.heap.size) 61 ([.int .i64 s, .bool z, .int .i64 a0, .int .i64 a1, .int .i64 a2, .int .i64 a3, .int .i64 a4, .int .i64 a5, .int .i64 a6, .int .i64 a7, .int .i64 a8, .int .i64 a9, .int .i64 a10, .int .i64 a11, .int .i64 a12]) W2) := BL.out.below bX
      have BW' : Hid (Below w.heap.size w W2) := below_trans BW.out bX
      have D0' : Hid (RdB W2 (.slice sa0 sn0 sc0) (r0)) := D0.out.later bX
      have D1' : Hid (RdB W2 (.slice sa1 sn1 sc1) (r1)) := RowV.rd rv
      refine hK.out _ _ BL'.out (fun _ => ?_)
      try simp only [List.setIfInBounds_toArray, List.set_cons_zero, List.set_cons_succ]
      exact hG.2 _ _ _ _ (Q2_ W2 _ _ _ _ _ _ BL' BW' D0' D1')
    · go_simp
      have bX := below_alloc W (.cells #[.int .i64 a0, .int .i64 a1, .int .i64 a2, .int .i64 a3, .int .i64 a4, .int .i64 a5, .int .i64 a6, .int .i64 a7, .int .i64 a8, .int .i64 a9, .int .i64 a10, .int .i64 a11, .int .i64 a12] 2)
      have G0' : Hid (Blk W.heap.size 2 [.int .i64 a0, .int .i64 a1, .int .i64 a2, .int .i64 a3, .int .i64 a4, .int .i64 a5, .int .i64 a6, .int .i64 a7, .int .i64 a8, .int .i64 a9, .int .i64 a10, .int .i64 a11, .int .i64 a12] (W.alloc (.cells #[.int .i64 a0, .int .i64 a1, .int .i64 a2, .int .i64 a3, .int .i64 a4, .int .i64 a5, .int .i64 a6, .int .i64 a7, .int .i64 a8, .int .i64 a9, .int .i64 a10, .int .i64 a11, .int .i64 a12] 2))) := Blk.new _ _ _
      have BL' : Hid (Blk (w.heap.size) 61 ([.int .i64 s, .bool z, .int .i64 a0, .int .i64 a1, .int .i64 a2, .int .i64 a3, .int .i64 a4, .int .i64 a5, .int .i64 a6, .int .i64 a7, .int .i64 a8, .int .i64 a9, .int .i64 a10, .int .i64 a11, .int .i64 a12]) (W.alloc (.cells #[.int .i64 a0, .int .i64 a1, .int .i64 a2, .int .i64 a3, .int .i64 a4, .int .i64 a5, .int .i64 a6, .int .i64 a7, .int .i64 a8, .int .i64 a9, .int .i64 a10, .int .i64 a11, .int .i64 a12] 2))) := BL.out.below bX
      have BW' : Hid (Below w.heap.size w (W.alloc (.cells #[.int .i64 a0, .int .i64 a1, .int .i64 a2, .int .i64 a3, .int .i64 a4, .int .i64 a5, .int .i64 a6, .int .i64 a7, .int .i64 a8, .int .i64 a9, .int .i64 a10, .int .i64 a11, .int .i64 a12] 2))) := below_trans BW.out bX
      have D0' : Hid (RdB (W.alloc (.cells #[.int .i64 a0, .int .i64 a1, .int .i64 a2, .int .i64 a3, .int .i64 a4, .int .i64 a5, .int .i64 a6, .int .i64 a7, .int .i64 a8, .int .i64 a9, .int .i64 a10, .int .i64 a11, .int .i64 a12] 2)) (.slice sa0 sn0 sc0) (r0)) := D0.out.later bX
      refine hK.out _ _ BL'.out (fun _ => ?_)
      try simp only [List.setIfInBounds_toArray, List.set_cons_zero, List.set_cons_succ]
      exact hG.2 _ _ _ _ (Q1_0 _ _ _ _ _ BL' BW' D0' G0')
  have Q0_0 : ∀ (W : World) (F0 : Nat), Hid (Blk (w.heap.size) 61 ([.int .i64 s, .bool z, .int .i64 a0, .int .i64 a1, .int .i64 a2, .int .i64 a3, .int .i64 a4, .int .i64 a5, .int .i64 a6, .int .i64 a7, .int .i64 a8, .int .i64 a9, .int .i64 a10, .int .i64 a11, .int .i64 a12]) W) → Hid (Below w.heap.size w W) → Hid (Blk F0 2 [.int .i64 a0, .int .i64 a1, .int .i64 a2, .int .i64 a3, .int .i64 a4, .int .i64 a5, .int .i64 a6, .int .i64 a7, .int .i64 a8, .int .i64 a9, .int .i64 a10, .int .i64 a11, .int .i64 a12] W) → G 6 #[true, true, false, true, true, false, true, true, true, true, true, true, true, true, true, true, true, true, true, true, true, true, true, true, true, true, true, true, true, true, true, true, true, false, false, false, false] ⟨#[.agg #[.int .i64 s, .bool z, .int .i64 a0, .int .i64 a1, .int .i64 a2, .int .i64 a3, .int .i64 a4, .int .i64 a5, .int .i64 a6, .int .i64 a7, .int .i64 a8, .int .i64 a9, .int .i64 a10, .int .i64 a11, .int .i64 a12], .pointer (some ⟨w.heap.size, 0, none⟩), .slice none 0 0, .pointer (some ⟨w.heap.size, 0, none⟩), .int .i64 s, undef, .pointer (some ⟨w.heap.size, 1, none⟩), .bool z, undef, .pointer (some ⟨w.heap.size, 2, none⟩), .int .i64 a0, .pointer (some ⟨w.heap.size, 3, none⟩), .int .i64 a1, .pointer (some ⟨w.heap.size, 4, none⟩), .int .i64 a2, .pointer (some ⟨w.heap.size, 5, none⟩), .int .i64 a3, .pointer (some ⟨w.heap.size, 6, none⟩), .int .i64 a4, .pointer (some ⟨w.heap.size, 7, none⟩), .int .i64 a5, .pointer (some ⟨w.heap.size, 8, none⟩), .int .i64 a6, .pointer (some ⟨w.heap.size, 9, none⟩), .int .i64 a7, .pointer (some ⟨w.heap.size, 10, none⟩), .int .i64 a8, .pointer (some ⟨w.heap.size, 11, none⟩), .int .i64 a9, .pointer (some ⟨w.heap.size, 12, none⟩), .int .i64 a10, .pointer (some ⟨w.heap.size, 13, none⟩), .int .i64 a11, .pointer (some ⟨w.heap.size, 14, none⟩), .int .i64 a12, .slice (some ⟨F0, 0, none⟩) 13 13, undef, undef, undef], []⟩ W := by
    intro W F0 BL BW G0
    refine hG.1 _ _ _ _ ?_
    refine wpAnyH_ready (rs := [2]) (by kernel_rfl) (by simp) ?_
    refine AllReadyH.cons (o := { dst := some 5, op := Op.call { callee := Callee.value (Operand.func 37), args := #[Operand.tmp 4], argTypes := #[3] }, type := 33, pos := "encode.go:109", after := #[{ on := 1, ground := Ground.data }], guard := none }) rfl (fun K hK => ?_) AllReadyH.nil
    go_simp
    refine (C0.out W).mono ?_
    rintro e W2 ⟨v, rfl, rv, bX⟩
    obtain ⟨sa0, sc0, ev, -, -⟩ := (RowV.rd rv).len
    generalize ((r0).map bv).length = sn0 at ev
    subst ev
    have BL' : Hid (Blk (w.heap.size) 61 ([.int .i64 s, .bool z, .int .i64 a0, .int .i64 a1, .int .i64 a2, .int .i64 a3, .int .i64 a4, .int .i64 a5, .int .i64 a6, .int .i64 a7, .int .i64 a8, .int .i64 a9, .int .i64 a10, .int .i64 a11, .int .i64 a12]) W2) := BL.out.below bX
    have BW' : Hid (Below w.heap.size w W2) := below_trans BW.out bX
    have D0' : Hid (RdB W2 (.slice sa0 sn0 sc0) (r0)) := RowV.rd rv
    have G0' : Hid (Blk F0 2 [.int .i64 a0, .int .i64 a1, .int .i64 a2, .int .i64 a3, .int .i64 a4, .int .i64 a5, .int .i64 a6, .int .i64 a7, .int .i64 a8, .int .i64 a9, .int .i64 a10, .int .i64 a11, .int .i64 a12] W2) := G0.out.below bX
    refine hK.out _ _ BL'.out (fun _ => ?_)
    try simp only [List.setIfInBounds_toArray, List.set_cons_zero, List.set_cons_succ]
    exact hG.2 _ _ _ _ (Q1_0 W2 _ _ _ _ BL' BW' D0' G0')
  have Q0_ : ∀ (W : World), Hid (Blk (w.heap.size) 61 ([.int .i64 s, .bool z, .int .i64 a0, .int .i64 a1, .int .i64 a2, .int .i64 a3, .int .i64 a4, .int .i64 a5, .int .i64 a6, .int .i64 a7, .int .i64 a8, .int .i64 a9, .int .i64 a10, .int .i64 a11, .int .i64 a12]) W) → Hid (Below w.heap.size w W) → G 7 #[true, true, false, true, true, false, true, true, true, true, true, true, true, true, true, true, true, true, true, true, true, true, true, true, true, true, true, true, true, true, true, true, false, false, false, false, false] ⟨#[.agg #[.int .i64 s, .bool z, .int .i64 a0, .int .i64 a1, .int .i64 a2, .int .i64 a3, .int .i64 a4, .int .i64 a5, .int .i64 a6, .int .i64 a7, .int .i64 a8, .int .i64 a9, .int .i64 a10, .int .i64 a11, .int .i64 a12], .pointer (some ⟨w.heap.size, 0, none⟩), .slice none 0 0, .pointer (some ⟨w.heap.size, 0, none⟩), .int .i64 s, undef, .pointer (some ⟨w.heap.size, 1, none⟩), .bool z, undef, .pointer (some ⟨w.heap.size, 2, none⟩), .int .i64 a0, .pointer (some ⟨w.heap.size, 3, none⟩), .int .i64 a1, .pointer (some ⟨w.heap.size, 4, none⟩), .int .i64 a2, .pointer (some ⟨w.heap.size, 5, none⟩), .int .i64 a3, .pointer (some ⟨w.heap.size, 6, none⟩), .int .i64 a4, .pointer (some ⟨w.heap.size, 7, none⟩), .int .i64 a5, .pointer (some ⟨w.heap.size, 8, none⟩), .int .i64 a6, .pointer (some ⟨w.heap.size, 9, none⟩), .int .i64 a7, .pointer (some ⟨w.heap.size, 10, none⟩), .int .i64 a8, .pointer (some ⟨w.heap.size, 11, none⟩), .int .i64 a9, .pointer (some ⟨w.heap.size, 12, none⟩), .int .i64 a10, .pointer (some ⟨w.heap.size, 13, none⟩), .int .i64 a11, .pointer (some ⟨w.heap.size, 14, none⟩), .int .i64 a12, undef, undef, undef, undef], []⟩ W := by
    intro W BL BW
    refine hG.1 _ _ _ _ ?_
    refine wpAnyH_ready (rs := [2, 32]) (by kernel_rfl) (by simp) ?_
    refine AllReadyH.cons (o := { dst := some 5, op := Op.call { callee := Callee.value (Operand.func 37), args := #[Operand.tmp 4], argTypes := #[3] }, type := 33, pos := "encode.go:109", after := #[{ on := 1, ground := Ground.data }], guard := none }) rfl (fun K hK => ?_) (AllReadyH.cons (o := { dst := some 35, op := Op.buildSlice 110 13 #[(0, Operand.tmp 10), (1, Operand.tmp 12), (2, Operand.tmp 14), (3, Operand.tmp 16), (4, Operand.tmp 18), (5, Operand.tmp 20), (6, Operand.tmp 22), (7, Operand.tmp 24), (8, Operand.tmp 26), (9, Operand.tmp 28), (10, Operand.tmp 30), (11, Operand.tmp 32), (12, Operand.tmp 34)], type := 110, pos := "encode.go:108", after := #[{ on := 7, ground := Ground.data }, { on := 9, ground := Ground.data }, { on := 11, ground := Ground.data }, { on := 13, ground := Ground.data }, { on := 15, ground := Ground.data }, { on := 17, ground := Ground.data }, { on := 19, ground := Ground.data }, { on := 21, ground := Ground.data }, { on := 23, ground := Ground.data }, { on := 25, ground := Ground.data }, { on := 27, ground := Ground.data }, { on := 29, ground := Ground.data }, { on := 31, ground := Ground.data }], guard := none }) rfl (fun K hK => ?_) AllReadyH.nil)
    · go_simp
      refine (C0.out W).mono ?_
      rintro e W2 ⟨v, rfl, rv, bX⟩
      obtain ⟨sa0, sc0, ev, -, -⟩ := (RowV.rd rv).len
      generalize ((r0).map bv).length = sn0 at ev
      subst ev
      have BL' : Hid (Blk (w.heap.size) 61 ([.int .i64 s, .bool z, .int .i64 a0, .int .i64 a1, .int .i64 a2, .int .i64 a3, .int .i64 a4, .int .i64 a5, .int .i64 a6, .int .i64 a7, .int .i64 a8, .int .i64 a9, .int .i64 a10, .int .i64 a11, .int .i64 a12]) W2) := BL.out.below bX
      have BW' : Hid (Below w.heap.size w W2) := below_trans BW.out bX
      have D0' : Hid (RdB W2 (.slice sa0 sn0 sc0) (r0)) := RowV.rd rv
      refine hK.out _ _ BL'.out (fun _ => ?_)
      try simp only [List.setIfInBounds_toArray, List.set_cons_zero, List.set_cons_succ]
      exact hG.2 _ _ _ _ (Q1_ W2 _ _ _ BL' BW' D0')
    · go_simp
      have bX := below_alloc W (.cells #[.int .i64 a0, .int .i64 a1, .int .i64 a2, .int .i64 a3, .int .i64 a4, .int .i64 a5, .int .i64 a6, .int .i64 a7, .int .i64 a8, .int .i64 a9, .int .i64 a10, .int .i64 a11, .int .i64 a12] 2)
      have G0' : Hid (Blk W.heap.size 2 [.int .i64 a0, .int .i64 a1, .int .i64 a2, .int .i64 a3, .int .i64 a4, .int .i64 a5, .int .i64 a6, .int .i64 a7, .int .i64 a8, .int .i64 a9, .int .i64 a10, .int .i64 a11, .int .i64 a12] (W.alloc (.cells #[.int .i64 a0, .int .i64 a1, .int .i64 a2, .int .i64 a3, .int .i64 a4, .int .i64 a5, .int .i64 a6, .int .i64 a7, .int .i64 a8, .int .i64 a9, .int .i64 a10, .int .i64 a11, .int .i64 a12] 2))) := Blk.new _ _ _
      have BL' : Hid (Blk (w.heap.size) 61 ([.int .i64 s, .bool z, .int .i64 a0, .int .i64 a1, .int .i64 a2, .int .i64 a3, .int .i64 a4, .int .i64 a5, .int .i64 a6, .int .i64 a7, .int .i64 a8, .int .i64 a9, .int .i64 a10, .int .i64 a11, .int .i64 a12]) (W.alloc (.cells #[.int .i64 a0, .int .i64 a1, .int .i64 a2, .int .i64 a3, .int .i64 a4, .int .i64 a5, .int .i64 a6, .int .i64 a7, .int .i64 a8, .int .i64 a9, .int .i64 a10, .int .i64 a11, .int .i64 a12] 2))) := BL.out.below bX
      have BW' : Hid (Below w.heap.size w (W.alloc (.cells #[.int .i64 a0, .int .i64 a1, .int .i64 a2, .int .i64 a3, .int .i64 a4, .int .i64 a5, .int .i64 a6, .int .i64 a7, .int .i64 a8, .int .i64 a9, .int .i64 a10, .int .i64 a11, .int .i64 a12] 2))) := below_trans BW.out bX
      refine hK.out _ _ BL'.out (fun _ => ?_)
      try simp only [List.setIfInBounds_toArray, List.set_cons_zero, List.set_cons_succ]
      exact hG.2 _ _ _ _ (Q0_0 _ _ BL' BW' G0')
  exact Q0_ _ (BL0.out.drewN 1) (below_drewN BW0.out 1)
end Go.Proofs.Ytdbjjeaflfoppaa
