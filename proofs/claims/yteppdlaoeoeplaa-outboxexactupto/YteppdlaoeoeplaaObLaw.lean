/-
  Ours: OutboxAcks, OutboxDues, OutboxPendings (gen_obh.py: THE SEAT's OWN NUMBERS).
-/
import Derived.Test.YteppdlaoeoeplaaObLaw0
import Derived.Deep.AppendLies
namespace Go.Proofs.Yteppdlaoeoeplaa
open Go.RowKit ObM LedM PolM
set_option linter.unusedSimpArgs false

theorem RdOc.later {w w' : World} {v : Value} {os : List Oc} (h : RdOc w v os) (b : Below w.heap.size w w') : RdOc w' v os := by
  obtain ⟨a, c, e, H⟩ := h
  refine ⟨a, c, e, fun i o hi => ?_⟩
  obtain ⟨g, off, x, cc, e1, lt, r1, r2⟩ := H i o hi
  exact ⟨g, off, x, cc, e1, Nat.lt_of_lt_of_le lt b.size, fun j u hu => (b.cell (p := ⟨g, off + i * 5 + j, none⟩) lt).trans (r1 j u hu), Rd.later r2 b⟩

set_option maxRecDepth 40000 in
set_option maxHeartbeats 4000000 in
theorem outboxAcks_any (l hs : List Int) (s : Value) (os : List Oc) (a : Option Addr) (n c : Nat) (w : World) (hl : l.length = 17) (hr : Rd w s (bkL hs)) (hb : hs.length ≤ 1048576) (hO : RdOc w (.slice a n c) os) (hok : ∀ o ∈ os, OcOk o ∧ o.bs.length ≤ 1048576) (hn : os.length = n) (hN : n ≤ 1048576) :
    Calls Try.prog 4 #[.agg (polL l s).toArray, .slice a n c] w fun e w' => e = .returned (.bool true) ∧ Below w.heap.size w w' := by
  have SZP : Hid ((Try.prog.info? 24).map (·.size) = some (polL l s).length) := by show _ = _; rw [polL_len hl]; exact sizeP
  have UPA : Hid (∀ (v : Value) (xs : List Oc) (w' : World), Below w.heap.size w w' → RdOc w' v xs → (∀ o ∈ xs, OcOk o ∧ o.bs.length ≤ 1048576) → xs.length ≤ 1048590 → Calls Try.prog 8 #[.agg (polL l s).toArray, v, .int .i64 2, .int .i64 2] w' fun e w'' => e = .returned (.bool true) ∧ Below w'.heap.size w' w'') := fun v xs w' b r ok nn => upTo_at l hs s xs v 2 2 w' hl (hr.later b) (by omega) r ok nn
  have SC : Hid (RdOc w (.slice a n c) os ∧ (∀ o ∈ os, OcOk o ∧ o.bs.length ≤ 1048576) ∧ os.length = n ∧ n ≤ 1048576) := ⟨hO, hok, hn, hN⟩
  obtain ⟨Q, hQ⟩ : ∃ Q, w.heap.size = Q := ⟨_, rfl⟩
  obtain ⟨w0, hw0⟩ : ∃ w0, w.alloc (.cells (polL l s).toArray 24) = w0 := ⟨_, rfl⟩
  have S0 : Hid (Blk Q 24 (polL l s) w0 ∧ Below w.heap.size w w0) := by
    rw [← hw0, ← hQ]
    exact ⟨Blk.new _ _ _, below_alloc _ _⟩
  clear hl hr hb hO hok hn hN
  go_enter Try.func4, Try.ntmps4
  go_upto_region 1 with fail
  clear hQ hw0
  refine wp_region_held_drew (S := fun x => Blk Q 24 (polL l s) x) (by kernel_rfl) (S0.out.1) (fun hH => ?_)
  refine wpAnyH_take (i := 0) (oi := { dst := some 5, op := Op.load 24 (Operand.tmp 2), type := 24, pos := "law.go:249", after := #[], guard := none }) (v := .agg (polL l s : List Value).toArray) rfl (by kernel_rfl) (by kernel_rfl) (by kernel_rfl) (fun _ _ _ h => h) (yieldsIf_load_mid (by rfl) _ _ rfl _ 0 rfl (polL l s) _ (fun w' h => h.all) Try.underlying24 rfl SZP.out) hH ?_
  try simp only [Act.put, List.setIfInBounds_toArray, List.set_cons_zero, List.set_cons_succ]
  refine wpAnyH_ready (rs := [1]) (by kernel_rfl) (by simp) ?_
  refine AllReadyH.cons (o := { dst := some 6, op := Op.call { callee := Callee.value (Operand.func 9), args := #[], argTypes := #[] }, type := 25, pos := "law.go:249", after := #[], guard := none }) rfl (fun Kx hK => ?_) AllReadyH.nil
  go_simp
  refine (first_at _).mono ?_
  rintro e w1 ⟨rfl, r1, d1, b1⟩
  have E1 : Hid (Blk Q 24 (polL l s) w1 ∧ Below w.heap.size w w1 ∧ RdOc w1 (.slice (some ⟨w0.heap.size + 1, 0, none⟩) 4 4) ((first4 w0.heap.size).map (·.1))) := ⟨S0.out.1.below ⟨b1.os, b1.tape, b1.output, b1.size, b1.block⟩, below_trans S0.out.2 ⟨b1.os, b1.tape, b1.output, b1.size, b1.block⟩, rdOc_row r1 (first4_rd d1)⟩
  clear r1 d1 b1
  refine hK.out _ _ E1.out.1 (fun hH => ?_)
  try simp only [Act.put, List.setIfInBounds_toArray, List.set_cons_zero, List.set_cons_succ]
  refine wpAnyH_ready (rs := [2]) (by kernel_rfl) (by simp) ?_
  refine AllReadyH.cons (o := { dst := some 7, op := Op.call { callee := Callee.value (Operand.func 8), args := #[Operand.tmp 5, Operand.tmp 6, Operand.const (Value.int IntKind.i64 2), Operand.const (Value.int IntKind.i64 2)], argTypes := #[24, 25, 3, 3] }, type := 4, pos := "law.go:249", after := #[{ on := 0, ground := Ground.data }, { on := 1, ground := Ground.data }, { on := 1, ground := Ground.chain }], guard := none }) rfl (fun Kx hK => ?_) AllReadyH.nil
  go_simp
  refine (UPA.out _ _ w1 E1.out.2.1 E1.out.2.2 (first4_ok _) (by show 4 ≤ _; decide)).mono ?_
  rintro e w2 ⟨rfl, b2⟩
  have E2 : Hid (Blk Q 24 (polL l s) w2 ∧ Below w.heap.size w w2) := ⟨E1.out.1.below b2, below_trans E1.out.2.1 b2⟩
  clear b2 E1
  refine hK.out _ _ E2.out.1 (fun hH => ?_)
  try simp only [Act.put, List.setIfInBounds_toArray, List.set_cons_zero, List.set_cons_succ]
  refine wpAnyH_take (i := 3) (oi := { dst := some 8, op := Op.move (Operand.tmp 7), type := 4, pos := "law.go:249", after := #[{ on := 2, ground := Ground.data }, { on := 2, ground := Ground.chain }], guard := none }) (v := .bool true) rfl (by kernel_rfl) (by kernel_rfl) (by kernel_rfl) (fun _ _ _ h => h) (Or.inl ⟨by rfl, fun w' hs => by go_simp⟩) hH ?_
  try simp only [Act.put, List.setIfInBounds_toArray, List.set_cons_zero, List.set_cons_succ]
  refine wpAnyH_take (i := 4) (oi := { dst := some 9, op := Op.load 24 (Operand.tmp 2), type := 24, pos := "law.go:249", after := #[{ on := 3, ground := Ground.guard }], guard := some (3, true) }) (v := .agg (polL l s : List Value).toArray) rfl (by kernel_rfl) (by kernel_rfl) (by kernel_rfl) (fun _ _ _ h => h) (yieldsIf_load_mid (by rfl) _ _ rfl _ 0 rfl (polL l s) _ (fun w' h => h.all) Try.underlying24 rfl SZP.out) hH ?_
  try simp only [Act.put, List.setIfInBounds_toArray, List.set_cons_zero, List.set_cons_succ]
  refine wpAnyH_take (i := 5) (oi := { dst := some 10, op := Op.move (Operand.tmp 1), type := 25, pos := "law.go:249", after := #[{ on := 3, ground := Ground.guard }], guard := some (3, true) }) (v := .slice a n c) rfl (by kernel_rfl) (by kernel_rfl) (by kernel_rfl) (fun _ _ _ h => h) (Or.inl ⟨by rfl, fun w' hs => by go_simp⟩) hH ?_
  try simp only [Act.put, List.setIfInBounds_toArray, List.set_cons_zero, List.set_cons_succ]
  refine wpAnyH_ready (rs := [6]) (by kernel_rfl) (by simp) ?_
  refine AllReadyH.cons (o := { dst := some 11, op := Op.call { callee := Callee.value (Operand.func 8), args := #[Operand.tmp 9, Operand.tmp 10, Operand.const (Value.int IntKind.i64 2), Operand.const (Value.int IntKind.i64 2)], argTypes := #[24, 25, 3, 3] }, type := 4, pos := "law.go:249", after := #[{ on := 4, ground := Ground.data }, { on := 5, ground := Ground.data }, { on := 3, ground := Ground.chain }, { on := 3, ground := Ground.guard }], guard := some (3, true) }) rfl (fun Kx hK => ?_) AllReadyH.nil
  go_simp
  refine (UPA.out _ os w2 E2.out.2 (SC.out.1.later E2.out.2) SC.out.2.1 (by have h1 := SC.out.2.2; omega)).mono ?_
  rintro e w9 ⟨rfl, b9⟩
  have E9 : Hid (Blk Q 24 (polL l s) w9 ∧ Below w.heap.size w w9) := ⟨E2.out.1.below b9, below_trans E2.out.2 b9⟩
  clear b9
  refine hK.out _ _ E9.out.1 (fun hH => ?_)
  try simp only [Act.put, List.setIfInBounds_toArray, List.set_cons_zero, List.set_cons_succ]
  refine wpAnyH_take (i := 7) (oi := { dst := some 12, op := Op.pick (Operand.tmp 8) (Operand.tmp 11) (Operand.const (Value.bool false)), type := 4, pos := "law.go:249", after := #[{ on := 3, ground := Ground.data }, { on := 6, ground := Ground.data }], guard := none }) (v := .bool true) rfl (by kernel_rfl) (by kernel_rfl) (by kernel_rfl) (fun _ _ _ h => h) (Or.inl ⟨by rfl, fun w' hs => by go_simp⟩) hH ?_
  try simp only [Act.put, List.setIfInBounds_toArray, List.set_cons_zero, List.set_cons_succ]
  refine wpAnyH_take (i := 8) (oi := { dst := some 4, op := Op.assign (Operand.tmp 12), type := 4, pos := "law.go:249", after := #[{ on := 7, ground := Ground.data }, { on := 6, ground := Ground.chain }, { on := 0, ground := Ground.phase }, { on := 1, ground := Ground.phase }, { on := 2, ground := Ground.phase }, { on := 3, ground := Ground.phase }, { on := 4, ground := Ground.phase }, { on := 5, ground := Ground.phase }, { on := 6, ground := Ground.phase }, { on := 7, ground := Ground.phase }], guard := none }) (v := .bool true) rfl (by kernel_rfl) (by kernel_rfl) (by kernel_rfl) (fun _ _ _ h => h) (Or.inl ⟨by rfl, fun w' hs => by go_simp⟩) hH ?_
  try simp only [Act.put, List.setIfInBounds_toArray, List.set_cons_zero, List.set_cons_succ]
  refine wpAnyH_done (by kernel_rfl) ?_ _
  clear hH hK
  go_wp2_with fail
  go_ret
  exact ⟨rfl, E9.out.2⟩

set_option maxRecDepth 40000 in
set_option maxHeartbeats 4000000 in
theorem outboxDues_any (l hs : List Int) (s : Value) (os : List Oc) (a : Option Addr) (n c : Nat) (w : World) (hl : l.length = 17) (hr : Rd w s (bkL hs)) (hb : hs.length ≤ 1048576) (hO : RdOc w (.slice a n c) os) (hok : ∀ o ∈ os, OcOk o ∧ o.bs.length ≤ 1048576) (hn : os.length = n) (hN : n ≤ 1048576) :
    Calls Try.prog 5 #[.agg (polL l s).toArray, .slice a n c] w fun e w' => e = .returned (.bool true) ∧ Below w.heap.size w w' := by
  have SZP : Hid ((Try.prog.info? 24).map (·.size) = some (polL l s).length) := by show _ = _; rw [polL_len hl]; exact sizeP
  have UPA : Hid (∀ (v : Value) (xs : List Oc) (w' : World), Below w.heap.size w w' → RdOc w' v xs → (∀ o ∈ xs, OcOk o ∧ o.bs.length ≤ 1048576) → xs.length ≤ 1048590 → Calls Try.prog 8 #[.agg (polL l s).toArray, v, .int .i64 3, .int .i64 3] w' fun e w'' => e = .returned (.bool true) ∧ Below w'.heap.size w' w'') := fun v xs w' b r ok nn => upTo_at l hs s xs v 3 3 w' hl (hr.later b) (by omega) r ok nn
  have SC : Hid (RdOc w (.slice a n c) os ∧ (∀ o ∈ os, OcOk o ∧ o.bs.length ≤ 1048576) ∧ os.length = n ∧ n ≤ 1048576) := ⟨hO, hok, hn, hN⟩
  obtain ⟨Q, hQ⟩ : ∃ Q, w.heap.size = Q := ⟨_, rfl⟩
  obtain ⟨w0, hw0⟩ : ∃ w0, w.alloc (.cells (polL l s).toArray 24) = w0 := ⟨_, rfl⟩
  have S0 : Hid (Blk Q 24 (polL l s) w0 ∧ Below w.heap.size w w0) := by
    rw [← hw0, ← hQ]
    exact ⟨Blk.new _ _ _, below_alloc _ _⟩
  clear hl hr hb hO hok hn hN
  go_enter Try.func5, Try.ntmps5
  go_upto_region 1 with fail
  clear hQ hw0
  refine wp_region_held_drew (S := fun x => Blk Q 24 (polL l s) x) (by kernel_rfl) (S0.out.1) (fun hH => ?_)
  refine wpAnyH_take (i := 0) (oi := { dst := some 5, op := Op.load 24 (Operand.tmp 2), type := 24, pos := "law.go:254", after := #[], guard := none }) (v := .agg (polL l s : List Value).toArray) rfl (by kernel_rfl) (by kernel_rfl) (by kernel_rfl) (fun _ _ _ h => h) (yieldsIf_load_mid (by rfl) _ _ rfl _ 0 rfl (polL l s) _ (fun w' h => h.all) Try.underlying24 rfl SZP.out) hH ?_
  try simp only [Act.put, List.setIfInBounds_toArray, List.set_cons_zero, List.set_cons_succ]
  refine wpAnyH_ready (rs := [1]) (by kernel_rfl) (by simp) ?_
  refine AllReadyH.cons (o := { dst := some 6, op := Op.call { callee := Callee.value (Operand.func 9), args := #[], argTypes := #[] }, type := 25, pos := "law.go:254", after := #[], guard := none }) rfl (fun Kx hK => ?_) AllReadyH.nil
  go_simp
  refine (first_at _).mono ?_
  rintro e w1 ⟨rfl, r1, d1, b1⟩
  have E1 : Hid (Blk Q 24 (polL l s) w1 ∧ Below w.heap.size w w1 ∧ RdOc w1 (.slice (some ⟨w0.heap.size + 1, 0, none⟩) 4 4) ((first4 w0.heap.size).map (·.1))) := ⟨S0.out.1.below ⟨b1.os, b1.tape, b1.output, b1.size, b1.block⟩, below_trans S0.out.2 ⟨b1.os, b1.tape, b1.output, b1.size, b1.block⟩, rdOc_row r1 (first4_rd d1)⟩
  clear r1 d1 b1
  refine hK.out _ _ E1.out.1 (fun hH => ?_)
  try simp only [Act.put, List.setIfInBounds_toArray, List.set_cons_zero, List.set_cons_succ]
  refine wpAnyH_ready (rs := [2]) (by kernel_rfl) (by simp) ?_
  refine AllReadyH.cons (o := { dst := some 7, op := Op.call { callee := Callee.value (Operand.func 8), args := #[Operand.tmp 5, Operand.tmp 6, Operand.const (Value.int IntKind.i64 3), Operand.const (Value.int IntKind.i64 3)], argTypes := #[24, 25, 3, 3] }, type := 4, pos := "law.go:254", after := #[{ on := 0, ground := Ground.data }, { on := 1, ground := Ground.data }, { on := 1, ground := Ground.chain }], guard := none }) rfl (fun Kx hK => ?_) AllReadyH.nil
  go_simp
  refine (UPA.out _ _ w1 E1.out.2.1 E1.out.2.2 (first4_ok _) (by show 4 ≤ _; decide)).mono ?_
  rintro e w2 ⟨rfl, b2⟩
  have E2 : Hid (Blk Q 24 (polL l s) w2 ∧ Below w.heap.size w w2) := ⟨E1.out.1.below b2, below_trans E1.out.2.1 b2⟩
  clear b2 E1
  refine hK.out _ _ E2.out.1 (fun hH => ?_)
  try simp only [Act.put, List.setIfInBounds_toArray, List.set_cons_zero, List.set_cons_succ]
  refine wpAnyH_take (i := 3) (oi := { dst := some 8, op := Op.move (Operand.tmp 7), type := 4, pos := "law.go:254", after := #[{ on := 2, ground := Ground.data }, { on := 2, ground := Ground.chain }], guard := none }) (v := .bool true) rfl (by kernel_rfl) (by kernel_rfl) (by kernel_rfl) (fun _ _ _ h => h) (Or.inl ⟨by rfl, fun w' hs => by go_simp⟩) hH ?_
  try simp only [Act.put, List.setIfInBounds_toArray, List.set_cons_zero, List.set_cons_succ]
  refine wpAnyH_take (i := 4) (oi := { dst := some 9, op := Op.load 24 (Operand.tmp 2), type := 24, pos := "law.go:254", after := #[{ on := 3, ground := Ground.guard }], guard := some (3, true) }) (v := .agg (polL l s : List Value).toArray) rfl (by kernel_rfl) (by kernel_rfl) (by kernel_rfl) (fun _ _ _ h => h) (yieldsIf_load_mid (by rfl) _ _ rfl _ 0 rfl (polL l s) _ (fun w' h => h.all) Try.underlying24 rfl SZP.out) hH ?_
  try simp only [Act.put, List.setIfInBounds_toArray, List.set_cons_zero, List.set_cons_succ]
  refine wpAnyH_take (i := 5) (oi := { dst := some 10, op := Op.move (Operand.tmp 1), type := 25, pos := "law.go:254", after := #[{ on := 3, ground := Ground.guard }], guard := some (3, true) }) (v := .slice a n c) rfl (by kernel_rfl) (by kernel_rfl) (by kernel_rfl) (fun _ _ _ h => h) (Or.inl ⟨by rfl, fun w' hs => by go_simp⟩) hH ?_
  try simp only [Act.put, List.setIfInBounds_toArray, List.set_cons_zero, List.set_cons_succ]
  refine wpAnyH_ready (rs := [6]) (by kernel_rfl) (by simp) ?_
  refine AllReadyH.cons (o := { dst := some 11, op := Op.call { callee := Callee.value (Operand.func 8), args := #[Operand.tmp 9, Operand.tmp 10, Operand.const (Value.int IntKind.i64 3), Operand.const (Value.int IntKind.i64 3)], argTypes := #[24, 25, 3, 3] }, type := 4, pos := "law.go:254", after := #[{ on := 4, ground := Ground.data }, { on := 5, ground := Ground.data }, { on := 3, ground := Ground.chain }, { on := 3, ground := Ground.guard }], guard := some (3, true) }) rfl (fun Kx hK => ?_) AllReadyH.nil
  go_simp
  refine (UPA.out _ os w2 E2.out.2 (SC.out.1.later E2.out.2) SC.out.2.1 (by have h1 := SC.out.2.2; omega)).mono ?_
  rintro e w9 ⟨rfl, b9⟩
  have E9 : Hid (Blk Q 24 (polL l s) w9 ∧ Below w.heap.size w w9) := ⟨E2.out.1.below b9, below_trans E2.out.2 b9⟩
  clear b9
  refine hK.out _ _ E9.out.1 (fun hH => ?_)
  try simp only [Act.put, List.setIfInBounds_toArray, List.set_cons_zero, List.set_cons_succ]
  refine wpAnyH_take (i := 7) (oi := { dst := some 12, op := Op.pick (Operand.tmp 8) (Operand.tmp 11) (Operand.const (Value.bool false)), type := 4, pos := "law.go:254", after := #[{ on := 3, ground := Ground.data }, { on := 6, ground := Ground.data }], guard := none }) (v := .bool true) rfl (by kernel_rfl) (by kernel_rfl) (by kernel_rfl) (fun _ _ _ h => h) (Or.inl ⟨by rfl, fun w' hs => by go_simp⟩) hH ?_
  try simp only [Act.put, List.setIfInBounds_toArray, List.set_cons_zero, List.set_cons_succ]
  refine wpAnyH_take (i := 8) (oi := { dst := some 4, op := Op.assign (Operand.tmp 12), type := 4, pos := "law.go:254", after := #[{ on := 7, ground := Ground.data }, { on := 6, ground := Ground.chain }, { on := 0, ground := Ground.phase }, { on := 1, ground := Ground.phase }, { on := 2, ground := Ground.phase }, { on := 3, ground := Ground.phase }, { on := 4, ground := Ground.phase }, { on := 5, ground := Ground.phase }, { on := 6, ground := Ground.phase }, { on := 7, ground := Ground.phase }], guard := none }) (v := .bool true) rfl (by kernel_rfl) (by kernel_rfl) (by kernel_rfl) (fun _ _ _ h => h) (Or.inl ⟨by rfl, fun w' hs => by go_simp⟩) hH ?_
  try simp only [Act.put, List.setIfInBounds_toArray, List.set_cons_zero, List.set_cons_succ]
  refine wpAnyH_done (by kernel_rfl) ?_ _
  clear hH hK
  go_wp2_with fail
  go_ret
  exact ⟨rfl, E9.out.2⟩

set_option maxRecDepth 40000 in
set_option maxHeartbeats 4000000 in
theorem outboxPendings_any (l hs : List Int) (s : Value) (os : List Oc) (a : Option Addr) (n c : Nat) (w : World) (hl : l.length = 17) (hr : Rd w s (bkL hs)) (hb : hs.length ≤ 1048576) (hO : RdOc w (.slice a n c) os) (hok : ∀ o ∈ os, OcOk o ∧ o.bs.length ≤ 1048576) (hn : os.length = n) (hN : n ≤ 1048576) :
    Calls Try.prog 6 #[.agg (polL l s).toArray, .slice a n c] w fun e w' => e = .returned (.bool true) ∧ Below w.heap.size w w' := by
  have SZP : Hid ((Try.prog.info? 24).map (·.size) = some (polL l s).length) := by show _ = _; rw [polL_len hl]; exact sizeP
  have UPA : Hid (∀ (v : Value) (xs : List Oc) (w' : World), Below w.heap.size w w' → RdOc w' v xs → (∀ o ∈ xs, OcOk o ∧ o.bs.length ≤ 1048576) → xs.length ≤ 1048590 → Calls Try.prog 8 #[.agg (polL l s).toArray, v, .int .i64 4, .int .i64 4] w' fun e w'' => e = .returned (.bool true) ∧ Below w'.heap.size w' w'') := fun v xs w' b r ok nn => upTo_at l hs s xs v 4 4 w' hl (hr.later b) (by omega) r ok nn
  have SC : Hid (RdOc w (.slice a n c) os ∧ (∀ o ∈ os, OcOk o ∧ o.bs.length ≤ 1048576) ∧ os.length = n ∧ n ≤ 1048576) := ⟨hO, hok, hn, hN⟩
  obtain ⟨Q, hQ⟩ : ∃ Q, w.heap.size = Q := ⟨_, rfl⟩
  obtain ⟨w0, hw0⟩ : ∃ w0, w.alloc (.cells (polL l s).toArray 24) = w0 := ⟨_, rfl⟩
  have S0 : Hid (Blk Q 24 (polL l s) w0 ∧ Below w.heap.size w w0) := by
    rw [← hw0, ← hQ]
    exact ⟨Blk.new _ _ _, below_alloc _ _⟩
  clear hl hr hb hO hok hn hN
  go_enter Try.func6, Try.ntmps6
  go_upto_region 1 with fail
  clear hQ hw0
  refine wp_region_held_drew (S := fun x => Blk Q 24 (polL l s) x) (by kernel_rfl) (S0.out.1) (fun hH => ?_)
  refine wpAnyH_take (i := 0) (oi := { dst := some 5, op := Op.load 24 (Operand.tmp 2), type := 24, pos := "law.go:259", after := #[], guard := none }) (v := .agg (polL l s : List Value).toArray) rfl (by kernel_rfl) (by kernel_rfl) (by kernel_rfl) (fun _ _ _ h => h) (yieldsIf_load_mid (by rfl) _ _ rfl _ 0 rfl (polL l s) _ (fun w' h => h.all) Try.underlying24 rfl SZP.out) hH ?_
  try simp only [Act.put, List.setIfInBounds_toArray, List.set_cons_zero, List.set_cons_succ]
  refine wpAnyH_ready (rs := [1]) (by kernel_rfl) (by simp) ?_
  refine AllReadyH.cons (o := { dst := some 6, op := Op.call { callee := Callee.value (Operand.func 9), args := #[], argTypes := #[] }, type := 25, pos := "law.go:259", after := #[], guard := none }) rfl (fun Kx hK => ?_) AllReadyH.nil
  go_simp
  refine (first_at _).mono ?_
  rintro e w1 ⟨rfl, r1, d1, b1⟩
  have E1 : Hid (Blk Q 24 (polL l s) w1 ∧ Below w.heap.size w w1 ∧ RdOc w1 (.slice (some ⟨w0.heap.size + 1, 0, none⟩) 4 4) ((first4 w0.heap.size).map (·.1))) := ⟨S0.out.1.below ⟨b1.os, b1.tape, b1.output, b1.size, b1.block⟩, below_trans S0.out.2 ⟨b1.os, b1.tape, b1.output, b1.size, b1.block⟩, rdOc_row r1 (first4_rd d1)⟩
  clear r1 d1 b1
  refine hK.out _ _ E1.out.1 (fun hH => ?_)
  try simp only [Act.put, List.setIfInBounds_toArray, List.set_cons_zero, List.set_cons_succ]
  refine wpAnyH_ready (rs := [2]) (by kernel_rfl) (by simp) ?_
  refine AllReadyH.cons (o := { dst := some 7, op := Op.call { callee := Callee.value (Operand.func 8), args := #[Operand.tmp 5, Operand.tmp 6, Operand.const (Value.int IntKind.i64 4), Operand.const (Value.int IntKind.i64 4)], argTypes := #[24, 25, 3, 3] }, type := 4, pos := "law.go:259", after := #[{ on := 0, ground := Ground.data }, { on := 1, ground := Ground.data }, { on := 1, ground := Ground.chain }], guard := none }) rfl (fun Kx hK => ?_) AllReadyH.nil
  go_simp
  refine (UPA.out _ _ w1 E1.out.2.1 E1.out.2.2 (first4_ok _) (by show 4 ≤ _; decide)).mono ?_
  rintro e w2 ⟨rfl, b2⟩
  have E2 : Hid (Blk Q 24 (polL l s) w2 ∧ Below w.heap.size w w2) := ⟨E1.out.1.below b2, below_trans E1.out.2.1 b2⟩
  clear b2 E1
  refine hK.out _ _ E2.out.1 (fun hH => ?_)
  try simp only [Act.put, List.setIfInBounds_toArray, List.set_cons_zero, List.set_cons_succ]
  refine wpAnyH_take (i := 3) (oi := { dst := some 8, op := Op.move (Operand.tmp 7), type := 4, pos := "law.go:259", after := #[{ on := 2, ground := Ground.data }, { on := 2, ground := Ground.chain }], guard := none }) (v := .bool true) rfl (by kernel_rfl) (by kernel_rfl) (by kernel_rfl) (fun _ _ _ h => h) (Or.inl ⟨by rfl, fun w' hs => by go_simp⟩) hH ?_
  try simp only [Act.put, List.setIfInBounds_toArray, List.set_cons_zero, List.set_cons_succ]
  refine wpAnyH_take (i := 4) (oi := { dst := some 9, op := Op.load 24 (Operand.tmp 2), type := 24, pos := "law.go:259", after := #[{ on := 3, ground := Ground.guard }], guard := some (3, true) }) (v := .agg (polL l s : List Value).toArray) rfl (by kernel_rfl) (by kernel_rfl) (by kernel_rfl) (fun _ _ _ h => h) (yieldsIf_load_mid (by rfl) _ _ rfl _ 0 rfl (polL l s) _ (fun w' h => h.all) Try.underlying24 rfl SZP.out) hH ?_
  try simp only [Act.put, List.setIfInBounds_toArray, List.set_cons_zero, List.set_cons_succ]
  refine wpAnyH_take (i := 5) (oi := { dst := some 10, op := Op.move (Operand.tmp 1), type := 25, pos := "law.go:259", after := #[{ on := 3, ground := Ground.guard }], guard := some (3, true) }) (v := .slice a n c) rfl (by kernel_rfl) (by kernel_rfl) (by kernel_rfl) (fun _ _ _ h => h) (Or.inl ⟨by rfl, fun w' hs => by go_simp⟩) hH ?_
  try simp only [Act.put, List.setIfInBounds_toArray, List.set_cons_zero, List.set_cons_succ]
  refine wpAnyH_ready (rs := [6]) (by kernel_rfl) (by simp) ?_
  refine AllReadyH.cons (o := { dst := some 11, op := Op.call { callee := Callee.value (Operand.func 8), args := #[Operand.tmp 9, Operand.tmp 10, Operand.const (Value.int IntKind.i64 4), Operand.const (Value.int IntKind.i64 4)], argTypes := #[24, 25, 3, 3] }, type := 4, pos := "law.go:259", after := #[{ on := 4, ground := Ground.data }, { on := 5, ground := Ground.data }, { on := 3, ground := Ground.chain }, { on := 3, ground := Ground.guard }], guard := some (3, true) }) rfl (fun Kx hK => ?_) AllReadyH.nil
  go_simp
  refine (UPA.out _ os w2 E2.out.2 (SC.out.1.later E2.out.2) SC.out.2.1 (by have h1 := SC.out.2.2; omega)).mono ?_
  rintro e w9 ⟨rfl, b9⟩
  have E9 : Hid (Blk Q 24 (polL l s) w9 ∧ Below w.heap.size w w9) := ⟨E2.out.1.below b9, below_trans E2.out.2 b9⟩
  clear b9
  refine hK.out _ _ E9.out.1 (fun hH => ?_)
  try simp only [Act.put, List.setIfInBounds_toArray, List.set_cons_zero, List.set_cons_succ]
  refine wpAnyH_take (i := 7) (oi := { dst := some 12, op := Op.pick (Operand.tmp 8) (Operand.tmp 11) (Operand.const (Value.bool false)), type := 4, pos := "law.go:259", after := #[{ on := 3, ground := Ground.data }, { on := 6, ground := Ground.data }], guard := none }) (v := .bool true) rfl (by kernel_rfl) (by kernel_rfl) (by kernel_rfl) (fun _ _ _ h => h) (Or.inl ⟨by rfl, fun w' hs => by go_simp⟩) hH ?_
  try simp only [Act.put, List.setIfInBounds_toArray, List.set_cons_zero, List.set_cons_succ]
  refine wpAnyH_take (i := 8) (oi := { dst := some 4, op := Op.assign (Operand.tmp 12), type := 4, pos := "law.go:259", after := #[{ on := 7, ground := Ground.data }, { on := 6, ground := Ground.chain }, { on := 0, ground := Ground.phase }, { on := 1, ground := Ground.phase }, { on := 2, ground := Ground.phase }, { on := 3, ground := Ground.phase }, { on := 4, ground := Ground.phase }, { on := 5, ground := Ground.phase }, { on := 6, ground := Ground.phase }, { on := 7, ground := Ground.phase }], guard := none }) (v := .bool true) rfl (by kernel_rfl) (by kernel_rfl) (by kernel_rfl) (fun _ _ _ h => h) (Or.inl ⟨by rfl, fun w' hs => by go_simp⟩) hH ?_
  try simp only [Act.put, List.setIfInBounds_toArray, List.set_cons_zero, List.set_cons_succ]
  refine wpAnyH_done (by kernel_rfl) ?_ _
  clear hH hK
  go_wp2_with fail
  go_ret
  exact ⟨rfl, E9.out.2⟩
end Go.Proofs.Yteppdlaoeoeplaa
