/-
  Ours: the walk of PolicyBackoffGrows (gen_polgro.py: THE SEAT's OWN NUMBERS).
-/
import Derived.Test.YtcjmjbhbdojeiaaPolMs
import Derived.Test.YtcjmjbhbdojeiaaPolPrg
import Derived.Deep.CutRange
import Derived.Deep.RegionHeld3
namespace Go.Proofs.Ytcjmjbhbdojeiaa
open Go.RowKit LedM PolM

namespace PolM
theorem bkN_succ (b c : Int) (m : Nat) (b0 : 1 ≤ b) (b1 : b ≤ c) (c1 : c ≤ 64) : (b ≤ bkN b c m ∧ bkN b c m ≤ c) ∧ (c < 2 * bkN b c m → bkN b c (m + 1) = c) ∧ (¬ c < 2 * bkN b c m → bkN b c (m + 1) = 2 * bkN b c m) := by
  unfold bkN
  have hp := p2_pos (min m 7)
  have hm := Int.mul_le_mul_of_nonneg_left hp (show 0 ≤ b by omega)
  by_cases h7 : m + 1 ≤ 7
  · have e1 : min m 7 = m := by omega
    have e2 : min (m + 1) 7 = m + 1 := by omega
    rw [e1] at hm ⊢
    rw [e2]
    have : b * p2 (m + 1) = 2 * (b * p2 m) := by simp only [p2]; rw [← Int.mul_assoc, Int.mul_comm b 2, Int.mul_assoc]
    rw [this]
    generalize b * p2 m = q at *
    omega
  · have e1 : min m 7 = 7 := by omega
    have e2 : min (m + 1) 7 = 7 := by omega
    rw [e1, e2]
    have : p2 7 = 128 := rfl
    rw [this]
    omega
theorem bkV_low {b c att : Int} (h : att ≤ 1) (b1 : b ≤ c) : bkV b c att = b := by
  unfold bkV bkN
  rw [show (att - 1).toNat = 0 by omega]
  simp [p2]
  omega
theorem bkV_top {b c : Int} (b0 : 1 ≤ b) (c1 : c ≤ 64) : bkV b c 9223372036854775807 = c := by
  unfold bkV bkN
  rw [show min ((9223372036854775807 : Int) - 1).toNat 7 = 7 by omega, show p2 7 = 128 from rfl]
  omega
theorem bkV_next {b c att : Int} (h : 1 ≤ att) (b0 : 1 ≤ b) (b1 : b ≤ c) (c1 : c ≤ 64) : (b ≤ bkV b c att ∧ bkV b c att ≤ c) ∧ (c < 2 * bkV b c att → bkV b c (att + 1) = c) ∧ (¬ c < 2 * bkV b c att → bkV b c (att + 1) = 2 * bkV b c att) := by
  unfold bkV
  rw [show (att + 1 - 1).toNat = (att - 1).toNat + 1 by omega]
  exact bkN_succ b c _ b0 b1 c1
end PolM

set_option maxRecDepth 20000 in
set_option maxHeartbeats 2000000 in
theorem grows_any (l hs : List Int) (s : Value) (att : Int) (ha : i64 att) (w : World) (hl : l.length = 17) (ok : ∀ k, i64 (l.getD k 0)) (hr : Rd w s (bkL hs)) (okh : ∀ k, i64 (hs.getD k 0)) :
    Calls Try.prog 4 #[PV l s, .int .i64 att] w fun e w' => e = .returned (.bool true) ∧ Below w.heap.size w w' := by
  by_cases hbig : 1000 < hs.length
  · obtain ⟨ao, cp, rfl, -, -, -⟩ := hr
    rw [bkL_len]
    show Calls _ _ #[.agg (polL l (.slice ao hs.length cp)).toArray, _] _ _
    have c17 := (Blk.new 24 (polL l (.slice ao hs.length cp)) w).cell 17 _ (polL_hol hl)
    have BB : Hid (Below w.heap.size w (w.alloc (.cells (polL l (.slice ao hs.length cp)).toArray 24))) := below_alloc _ _
    generalize polL l (.slice ao hs.length cp) = cs at *
    generalize hs.length = N at *
    have hbig' : (1000 : Int) < (N : Int) := by omega
    go_enter Try.func4, Try.ntmps4
    go_wp2_with fail
    go_ret
    exact ⟨rfl, BB.out⟩
  have hb : hs.length ≤ 1000000 := by omega
  have hsm : ¬ (1000 : Int) < (hs.length : Int) := by omega
  have MD : Hid (∀ w', Below w.heap.size w w' → Calls Try.prog 9 #[PV l s] w' fun e w'' => ∃ v, e = .returned (PV (madeL l) v) ∧ Rd w'' v (bkL (risL 0 64 hs)) ∧ Below w'.heap.size w' w'') := fun w' h => made_any l hs s w' hl ok (hr.later h) hb okh
  have LN : Hid ((madeL l).length = 17) := made_len l
  have GD : Hid (good (madeL l) (risL 0 64 hs) = true) := made_good l hs
  have HB : Hid ((risL 0 64 hs).length ≤ 1000000) := Nat.le_trans (risL_len hs 0 64) (by decide)
  have NU := nums GD.out
  have NS : Hid (Nums (madeL l)) := NU
  clear NU
  have SZ : Hid (∀ t : Value, (Try.prog.info? 24).map (·.size) = some (polL (madeL l) t).length) := fun t => by rw [polL_len LN.out]; exact sizeP
  have SZ0 : Hid (∀ t : Value, (Try.prog.info? 24).map (·.size) = some (polL l t).length) := fun t => by rw [polL_len hl]; exact sizeP
  have FT : Hid (∀ t : Value, 0 + (polL (madeL l) t).length ≤ polZ.length) := fun t => by rw [polL_len LN.out]; exact Nat.le_refl 18
  obtain ⟨ao, cp, rfl, -, -, -⟩ := hr
  rw [bkL_len] at MD ⊢
  show Calls _ _ #[.agg (polL l (.slice ao hs.length cp)).toArray, _] _ _
  have PB := Blk.new 24 (polL l (.slice ao hs.length cp)) w
  have c17 := PB.cell 17 _ (polL_hol hl)
  have BP : Hid (Blk w.heap.size 24 (polL l (.slice ao hs.length cp)) (w.alloc (.cells (polL l (.slice ao hs.length cp)).toArray 24))) := PB
  have BB : Hid (Below w.heap.size w (w.alloc (.cells (polL l (.slice ao hs.length cp)).toArray 24))) := below_alloc _ _
  have BO : Hid (∀ (q : Value) (w' : World) (a : Int), i64 a → Rd w' q (bkL (risL 0 64 hs)) → Calls Try.prog 13 #[PV (madeL l) q, .int .i64 a] w' fun e w'' => e = .returned (.int .i64 (bkV ((madeL l).getD 14 0) ((madeL l).getD 15 0) a)) ∧ Below w'.heap.size w' w'') := fun q w' a ha h => by
    have := backoff_at (madeL l) (risL 0 64 hs) q w' LN.out h HB.out a ha
    rwa [GD.out, if_pos rfl] at this
  clear PB hl hbig ok okh
  generalize madeL l = ml at *
  generalize risL 0 64 hs = R at *
  go_enter Try.func4, Try.ntmps4
  go_wp2_with (first
  | (refine step_load rfl 24 _ rfl w.heap.size 0 rfl (polL l (.slice ao hs.length cp)) _ (Blk.all BP.out) Try.underlying24 rfl (SZ0.out _) ?_))
  refine (MD.out _ BB.out).mono ?_
  rintro e w1 ⟨v, rfl, rv, b1⟩
  have B1 : Hid (Below w.heap.size w w1) := below_trans BB.out b1
  have R1 : Hid (Rd w1 v (bkL R)) := rv
  have NZ : Hid (Blk w1.heap.size 24 polZ (w1.alloc (.cells #[.int .i64 0, .int .i64 0, .int .i64 0, .int .i64 0, .int .i64 0, .int .i64 0, .int .i64 0, .int .i64 0, .int .i64 0, .int .i64 0, .int .i64 0, .int .i64 0, .int .i64 0, .int .i64 0, .int .i64 0, .int .i64 0, .int .i64 0, .slice none 0 0] 24))) := Blk.new _ _ _
  have OV : Hid (∀ u ∈ polL ml v, u.oneCell' = true) := by
    obtain ⟨a1, c1, rfl, -, -, -⟩ := rv
    exact polL_one
  clear rv b1 c17 MD BP BB SZ0
  obtain ⟨G, hG⟩ : ∃ G, w1.heap.size = G := ⟨_, rfl⟩
  have HG : Hid (w1.heap.size = G) := hG
  clear hG
  go_upto_region 4 with (first
  | ((with_reducible refine at_store ?_); refine step_store rfl 24 _ _ rfl w1.heap.size 0 24 polZ (polL ml v) rfl rfl NZ.out (FT.out _) (SZ.out _) OV.out ?_; intro w2 nb2 g2))
  have S2 : Hid (MS w ml R v w1.heap.size w2) := MS.start LN.out B1.out R1.out nb2 g2
  rw [HG.out] at S2
  try rw [HG.out]
  clear nb2 g2 NZ R1 B1 OV FT
  have hu := Try.underlying24
  have hi := SZ.out v
  have LNl := LN.out
  obtain ⟨n1, n2⟩ := NS.out.base
  obtain ⟨n3, n4⟩ := NS.out.cap
  have C14 : Hid (∀ w', MS w ml R v G w' → w'.cell? ⟨G, 14, none⟩ = some (.int .i64 (ml.getD 14 0))) := fun w' h => h.cell LN.out 14 (by omega)
  have C15 : Hid (∀ w', MS w ml R v G w' → w'.cell? ⟨G, 15, none⟩ = some (.int .i64 (ml.getD 15 0))) := fun w' h => h.cell LN.out 15 (by omega)
  have BK : Hid (∀ a, a ≤ 1 → bkV (ml.getD 14 0) (ml.getD 15 0) a = ml.getD 14 0) := fun a h => bkV_low h n3
  have BT : Hid (bkV (ml.getD 14 0) (ml.getD 15 0) 9223372036854775807 = ml.getD 15 0) := bkV_top n1 n4
  have BX : Hid (1 ≤ att → (ml.getD 14 0 ≤ bkV (ml.getD 14 0) (ml.getD 15 0) att ∧ bkV (ml.getD 14 0) (ml.getD 15 0) att ≤ ml.getD 15 0) ∧ (ml.getD 15 0 < 2 * bkV (ml.getD 14 0) (ml.getD 15 0) att → bkV (ml.getD 14 0) (ml.getD 15 0) (att + 1) = ml.getD 15 0) ∧ (¬ ml.getD 15 0 < 2 * bkV (ml.getD 14 0) (ml.getD 15 0) att → bkV (ml.getD 14 0) (ml.getD 15 0) (att + 1) = 2 * bkV (ml.getD 14 0) (ml.getD 15 0) att)) := fun h => bkV_next h n1 n3 n4
  generalize ml.getD 14 0 = b at *
  generalize ml.getD 15 0 = c at *
  have i1 : i64 1 := ⟨by decide, by decide⟩
  have B1 : Hid (∀ q w', Rd w' q (bkL R) → Calls Try.prog 13 #[PV ml q, .int .i64 1] w' fun e w'' => e = .returned (.int .i64 b) ∧ Below w'.heap.size w' w'') := fun q w' h => by have := BO.out q w' 1 i1 h; rwa [BK.out 1 (by decide)] at this
  clear i1
  have bb0 : (b != b) = false := by simp
  have bb1 : (b == b) = true := by simp
  have cc1 : (c == c) = true := by simp
  obtain ⟨a1, a2⟩ := ha
  refine wp_region_held_drew (S := fun w' => MS w ml R v G w') (by kernel_rfl) (S2.out.drewN 1) (fun hH => ?_)
  refine wpAnyH_take (i := 0) (oi := { dst := some 14, op := Op.load 24 (Operand.tmp 5), type := 24, pos := "outright.go:213", after := #[], guard := none }) (v := .agg (polL ml v).toArray) rfl (by kernel_rfl) (by kernel_rfl) (by kernel_rfl) (fun _ _ _ h => h) (yieldsIf_load_mid (by rfl) _ _ rfl G 0 rfl (polL ml v) _ (fun w' h => h.q.all) hu rfl hi) hH ?_
  try simp only [Act.put, List.setIfInBounds_toArray, List.set_cons_zero, List.set_cons_succ]
  refine wpAnyH_take (i := 2) (oi := { dst := some 16, op := Op.fieldAddr 24 (Operand.tmp 5) 14, type := 0, pos := "outright.go:213", after := #[], guard := none }) (v := .pointer (some ⟨G, 14, none⟩)) rfl (by kernel_rfl) (by kernel_rfl) (by kernel_rfl) (fun _ _ _ h => h) (Or.inl ⟨by rfl, fun w' h => by go_simp⟩) hH ?_
  try simp only [Act.put, List.setIfInBounds_toArray, List.set_cons_zero, List.set_cons_succ]
  refine wpAnyH_take (i := 3) (oi := { dst := some 17, op := Op.load 3 (Operand.tmp 16), type := 3, pos := "outright.go:213", after := #[{ on := 2, ground := Ground.data }], guard := none }) (v := .int .i64 b) rfl (by kernel_rfl) (by kernel_rfl) (by kernel_rfl) (fun _ _ _ h => h) (Or.inl ⟨by rfl, fun w' h => by have c := C14.out w' h; go_simp⟩) hH ?_
  try simp only [Act.put, List.setIfInBounds_toArray, List.set_cons_zero, List.set_cons_succ]
  refine wpAnyH_ready (rs := [1]) (by kernel_rfl) (by simp) ?_
  refine AllReadyH.cons (o := { dst := some 15, op := Op.call { callee := Callee.value (Operand.func 13), args := #[Operand.tmp 14, Operand.const (Value.int IntKind.i64 1)], argTypes := #[24, 3] }, type := 3, pos := "outright.go:213", after := #[{ on := 0, ground := Ground.data }], guard := none }) rfl (fun K hK => ?_) AllReadyH.nil
  go_simp
  refine (B1.out _ _ hH.r).mono ?_
  rintro e w3 ⟨rfl, b3⟩
  refine hK.out _ _ (hH.later b3) (fun hH => ?_)
  try simp only [Act.put, List.setIfInBounds_toArray, List.set_cons_zero, List.set_cons_succ]
  refine wpAnyH_take (i := 4) (oi := { dst := some 18, op := Op.binOp BinOp.neq 3 (Operand.tmp 15) (Operand.tmp 17) 3, type := 4, pos := "outright.go:213", after := #[{ on := 1, ground := Ground.data }, { on := 3, ground := Ground.data }], guard := none }) (v := .bool false) rfl (by kernel_rfl) (by kernel_rfl) (by kernel_rfl) (fun _ _ _ h => h) (Or.inl ⟨by rfl, fun w' h => by go_simp⟩) hH ?_
  try simp only [Act.put, List.setIfInBounds_toArray, List.set_cons_zero, List.set_cons_succ]
  refine wpAnyH_done (by kernel_rfl) ?_ _
  have S3 : Hid (MS w ml R v G w3) := hH
  clear hH hK
  by_cases h1 : att < 1
  · have BL : Hid (∀ q w', Rd w' q (bkL R) → Calls Try.prog 13 #[PV ml q, .int .i64 att] w' fun e w'' => e = .returned (.int .i64 b) ∧ Below w'.heap.size w' w'') := fun q w' h => by have := BO.out q w' att ⟨a1, a2⟩ h; rwa [BK.out att (by omega)] at this
    go_upto_region 7 with fail
    refine wp_region_held_drew (S := fun w' => MS w ml R v G w') (by kernel_rfl) (S3.out.drewN 1) (fun hH => ?_)
    refine wpAnyH_take (i := 0) (oi := { dst := some 21, op := Op.load 24 (Operand.tmp 5), type := 24, pos := "outright.go:217", after := #[], guard := none }) (v := .agg (polL ml v).toArray) rfl (by kernel_rfl) (by kernel_rfl) (by kernel_rfl) (fun _ _ _ h => h) (yieldsIf_load_mid (by rfl) _ _ rfl G 0 rfl (polL ml v) _ (fun w' h => h.q.all) hu rfl hi) hH ?_
    try simp only [Act.put, List.setIfInBounds_toArray, List.set_cons_zero, List.set_cons_succ]
    refine wpAnyH_take (i := 1) (oi := { dst := some 22, op := Op.move (Operand.tmp 1), type := 3, pos := "outright.go:217", after := #[], guard := none }) (v := .int .i64 att) rfl (by kernel_rfl) (by kernel_rfl) (by kernel_rfl) (fun _ _ _ h => h) (Or.inl ⟨by rfl, fun w' h => by go_simp⟩) hH ?_
    try simp only [Act.put, List.setIfInBounds_toArray, List.set_cons_zero, List.set_cons_succ]
    refine wpAnyH_take (i := 3) (oi := { dst := some 24, op := Op.fieldAddr 24 (Operand.tmp 5) 14, type := 0, pos := "outright.go:217", after := #[], guard := none }) (v := .pointer (some ⟨G, 14, none⟩)) rfl (by kernel_rfl) (by kernel_rfl) (by kernel_rfl) (fun _ _ _ h => h) (Or.inl ⟨by rfl, fun w' h => by go_simp⟩) hH ?_
    try simp only [Act.put, List.setIfInBounds_toArray, List.set_cons_zero, List.set_cons_succ]
    refine wpAnyH_take (i := 4) (oi := { dst := some 25, op := Op.load 3 (Operand.tmp 24), type := 3, pos := "outright.go:217", after := #[{ on := 3, ground := Ground.data }], guard := none }) (v := .int .i64 b) rfl (by kernel_rfl) (by kernel_rfl) (by kernel_rfl) (fun _ _ _ h => h) (Or.inl ⟨by rfl, fun w' h => by have c := C14.out w' h; go_simp⟩) hH ?_
    try simp only [Act.put, List.setIfInBounds_toArray, List.set_cons_zero, List.set_cons_succ]
    refine wpAnyH_ready (rs := [2]) (by kernel_rfl) (by simp) ?_
    refine AllReadyH.cons (o := { dst := some 23, op := Op.call { callee := Callee.value (Operand.func 13), args := #[Operand.tmp 21, Operand.tmp 22], argTypes := #[24, 3] }, type := 3, pos := "outright.go:217", after := #[{ on := 0, ground := Ground.data }, { on := 1, ground := Ground.data }], guard := none }) rfl (fun K hK => ?_) AllReadyH.nil
    go_simp
    refine (BL.out _ _ hH.r).mono ?_
    rintro e w4 ⟨rfl, b4⟩
    refine hK.out _ _ (hH.later b4) (fun hH => ?_)
    try simp only [Act.put, List.setIfInBounds_toArray, List.set_cons_zero, List.set_cons_succ]
    refine wpAnyH_take (i := 5) (oi := { dst := some 26, op := Op.binOp BinOp.eql 3 (Operand.tmp 23) (Operand.tmp 25) 3, type := 4, pos := "outright.go:217", after := #[{ on := 2, ground := Ground.data }, { on := 4, ground := Ground.data }], guard := none }) (v := .bool true) rfl (by kernel_rfl) (by kernel_rfl) (by kernel_rfl) (fun _ _ _ h => h) (Or.inl ⟨by rfl, fun w' h => by go_simp⟩) hH ?_
    try simp only [Act.put, List.setIfInBounds_toArray, List.set_cons_zero, List.set_cons_succ]
    refine wpAnyH_take (i := 6) (oi := { dst := some 4, op := Op.assign (Operand.tmp 26), type := 4, pos := "outright.go:217", after := #[{ on := 5, ground := Ground.data }, { on := 2, ground := Ground.chain }, { on := 0, ground := Ground.phase }, { on := 1, ground := Ground.phase }, { on := 2, ground := Ground.phase }, { on := 3, ground := Ground.phase }, { on := 4, ground := Ground.phase }, { on := 5, ground := Ground.phase }], guard := none }) (v := .bool true) rfl (by kernel_rfl) (by kernel_rfl) (by kernel_rfl) (fun _ _ _ h => h) (Or.inl ⟨by rfl, fun w' h => by go_simp⟩) hH ?_
    try simp only [Act.put, List.setIfInBounds_toArray, List.set_cons_zero, List.set_cons_succ]
    refine wpAnyH_done (by kernel_rfl) ?_ _
    have S4 : Hid (MS w ml R v G w4) := hH
    clear hH hK
    go_wp2_with fail
    go_ret
    exact ⟨rfl, S4.out.bb⟩
  by_cases h2 : att = 9223372036854775807
  · have BL : Hid (∀ q w', Rd w' q (bkL R) → Calls Try.prog 13 #[PV ml q, .int .i64 att] w' fun e w'' => e = .returned (.int .i64 c) ∧ Below w'.heap.size w' w'') := fun q w' h => by have := BO.out q w' att ⟨a1, a2⟩ h; rw [h2, BT.out] at this; rw [h2]; exact this
    have t2 : (att == 9223372036854775807) = true := by rw [h2]; rfl
    have H2 : Hid (att = 9223372036854775807) := h2
    clear h2
    go_upto_region 9 with fail
    refine wp_region_held_drew (S := fun w' => MS w ml R v G w') (by kernel_rfl) (S3.out.drewN 1) (fun hH => ?_)
    refine wpAnyH_take (i := 0) (oi := { dst := some 29, op := Op.load 24 (Operand.tmp 5), type := 24, pos := "outright.go:220", after := #[], guard := none }) (v := .agg (polL ml v).toArray) rfl (by kernel_rfl) (by kernel_rfl) (by kernel_rfl) (fun _ _ _ h => h) (yieldsIf_load_mid (by rfl) _ _ rfl G 0 rfl (polL ml v) _ (fun w' h => h.q.all) hu rfl hi) hH ?_
    try simp only [Act.put, List.setIfInBounds_toArray, List.set_cons_zero, List.set_cons_succ]
    refine wpAnyH_take (i := 1) (oi := { dst := some 30, op := Op.move (Operand.tmp 1), type := 3, pos := "outright.go:220", after := #[], guard := none }) (v := .int .i64 att) rfl (by kernel_rfl) (by kernel_rfl) (by kernel_rfl) (fun _ _ _ h => h) (Or.inl ⟨by rfl, fun w' h => by go_simp⟩) hH ?_
    try simp only [Act.put, List.setIfInBounds_toArray, List.set_cons_zero, List.set_cons_succ]
    refine wpAnyH_take (i := 3) (oi := { dst := some 32, op := Op.fieldAddr 24 (Operand.tmp 5) 15, type := 0, pos := "outright.go:220", after := #[], guard := none }) (v := .pointer (some ⟨G, 15, none⟩)) rfl (by kernel_rfl) (by kernel_rfl) (by kernel_rfl) (fun _ _ _ h => h) (Or.inl ⟨by rfl, fun w' h => by go_simp⟩) hH ?_
    try simp only [Act.put, List.setIfInBounds_toArray, List.set_cons_zero, List.set_cons_succ]
    refine wpAnyH_take (i := 4) (oi := { dst := some 33, op := Op.load 3 (Operand.tmp 32), type := 3, pos := "outright.go:220", after := #[{ on := 3, ground := Ground.data }], guard := none }) (v := .int .i64 c) rfl (by kernel_rfl) (by kernel_rfl) (by kernel_rfl) (fun _ _ _ h => h) (Or.inl ⟨by rfl, fun w' h => by have c := C15.out w' h; go_simp⟩) hH ?_
    try simp only [Act.put, List.setIfInBounds_toArray, List.set_cons_zero, List.set_cons_succ]
    refine wpAnyH_ready (rs := [2]) (by kernel_rfl) (by simp) ?_
    refine AllReadyH.cons (o := { dst := some 31, op := Op.call { callee := Callee.value (Operand.func 13), args := #[Operand.tmp 29, Operand.tmp 30], argTypes := #[24, 3] }, type := 3, pos := "outright.go:220", after := #[{ on := 0, ground := Ground.data }, { on := 1, ground := Ground.data }], guard := none }) rfl (fun K hK => ?_) AllReadyH.nil
    go_simp
    refine (BL.out _ _ hH.r).mono ?_
    rintro e w4 ⟨rfl, b4⟩
    refine hK.out _ _ (hH.later b4) (fun hH => ?_)
    try simp only [Act.put, List.setIfInBounds_toArray, List.set_cons_zero, List.set_cons_succ]
    refine wpAnyH_take (i := 5) (oi := { dst := some 34, op := Op.binOp BinOp.eql 3 (Operand.tmp 31) (Operand.tmp 33) 3, type := 4, pos := "outright.go:220", after := #[{ on := 2, ground := Ground.data }, { on := 4, ground := Ground.data }], guard := none }) (v := .bool true) rfl (by kernel_rfl) (by kernel_rfl) (by kernel_rfl) (fun _ _ _ h => h) (Or.inl ⟨by rfl, fun w' h => by go_simp⟩) hH ?_
    try simp only [Act.put, List.setIfInBounds_toArray, List.set_cons_zero, List.set_cons_succ]
    refine wpAnyH_take (i := 6) (oi := { dst := some 4, op := Op.assign (Operand.tmp 34), type := 4, pos := "outright.go:220", after := #[{ on := 5, ground := Ground.data }, { on := 2, ground := Ground.chain }, { on := 0, ground := Ground.phase }, { on := 1, ground := Ground.phase }, { on := 2, ground := Ground.phase }, { on := 3, ground := Ground.phase }, { on := 4, ground := Ground.phase }, { on := 5, ground := Ground.phase }], guard := none }) (v := .bool true) rfl (by kernel_rfl) (by kernel_rfl) (by kernel_rfl) (fun _ _ _ h => h) (Or.inl ⟨by rfl, fun w' h => by go_simp⟩) hH ?_
    try simp only [Act.put, List.setIfInBounds_toArray, List.set_cons_zero, List.set_cons_succ]
    refine wpAnyH_done (by kernel_rfl) ?_ _
    have S4 : Hid (MS w ml R v G w4) := hH
    clear hH hK
    go_wp2_with fail
    go_ret
    exact ⟨rfl, S4.out.bb⟩
  have t2 : (att == 9223372036854775807) = false := beq_eq_false_iff_ne.2 h2
  obtain ⟨⟨x1, x2⟩, x3, x4⟩ := BX.out (by omega)
  have X3 : Hid (c < 2 * bkV b c att → bkV b c (att + 1) = c) := x3
  have X4 : Hid (¬ c < 2 * bkV b c att → bkV b c (att + 1) = 2 * bkV b c att) := x4
  have BA : Hid (∀ q w', Rd w' q (bkL R) → Calls Try.prog 13 #[PV ml q, .int .i64 att] w' fun e w'' => e = .returned (.int .i64 (bkV b c att)) ∧ Below w'.heap.size w' w'') := fun q w' h => BO.out q w' att ⟨a1, a2⟩ h
  have BB : Hid (∀ q w', Rd w' q (bkL R) → Calls Try.prog 13 #[PV ml q, .int .i64 (att + 1)] w' fun e w'' => e = .returned (.int .i64 (bkV b c (att + 1))) ∧ Below w'.heap.size w' w'') := fun q w' h => BO.out q w' (att + 1) ⟨by omega, by omega⟩ h
  have a3 : att + 1 ≤ 9223372036854775807 := by omega
  clear x3 x4 BX BT BK BO B1 h2
  generalize bkV b c att = x at *
  generalize bkV b c (att + 1) = y at *
  go_wp2_with (first
  | (refine step_load rfl 24 _ rfl G 0 rfl (polL ml v) _ (Blk.all S3.out.q) Try.underlying24 rfl (SZ.out _) ?_)
  | (refine step_loadG rfl 24 _ rfl G 0 rfl (polL ml v) _ (Blk.all S3.out.q) Try.underlying24 rfl (SZ.out _) ?_))
  refine (BA.out _ _ S3.out.r).mono ?_
  rintro e w4 ⟨rfl, b4⟩
  have S4 : Hid (MS w ml R v G w4) := S3.out.later b4
  clear b4
  go_wp2_with (first
  | (refine step_load rfl 24 _ rfl G 0 rfl (polL ml v) _ (Blk.all S4.out.q) Try.underlying24 rfl (SZ.out _) ?_)
  | (refine step_loadG rfl 24 _ rfl G 0 rfl (polL ml v) _ (Blk.all S4.out.q) Try.underlying24 rfl (SZ.out _) ?_))
  refine (BB.out _ _ S4.out.r).mono ?_
  rintro e w5 ⟨rfl, b5⟩
  have S5 : Hid (MS w ml R v G w5) := S4.out.later b5
  clear b5
  have d14 := C14.out _ S5.out
  have d15 := C15.out _ S5.out
  by_cases h3 : c < 2 * x
  · obtain rfl := X3.out h3
    go_wp2_with fail
    go_ret
    exact ⟨rfl, S5.out.bb⟩
  · obtain rfl := X4.out (by omega)
    have e2 : (2 * x == 2 * x) = true := by simp
    go_wp2_with fail
    go_ret
    exact ⟨rfl, S5.out.bb⟩
end Go.Proofs.Ytcjmjbhbdojeiaa
